/-
  Rm7, Sq, Hz, Mp, Mq, Mh, Mr, Ref5a, Heq, Hw, Mb1, Ref4a: texts of ours that lie in one file.
-/
import Derived.Test.YtbihifipemldhabDoorQ08
import Derived.Test.YtbihifipemldhabDoorQ09
import Derived.Test.YtbihifipemldhabDoorQ03
import Derived.ChangeKeysEq
import Derived.Laws.StructEq
import Derived.Test.YtbihifipemldhabDoorQ02
import Derived.Test.YtbihifipemldhabDoorQ01
import Derived.Test.YtbihifipemldhabDoorQ05
set_option linter.unusedVariables false
set_option linter.unusedSimpArgs false
set_option maxHeartbeats 8000000
set_option maxRecDepth 100000
/-
  What the document's Play answers of small steps that may be: what they do ('mplay').
-/
namespace Go.Proofs.YtbihifipemldhabDoor.Mi
open Go.ChangeShapes Go.WideShapes Go.ChangeAt Go.RowKit Mm Hh Hc

/-- What small steps did (api.Did), as cells. -/
def gL (h : Hv) (M O : Value) (n : Int) (S : Value) : List Value := hL h ++ [M, O, .int .i64 n, S]
def gA (h : Hv) (M O : Value) (n : Int) (S : Value) : Array Value := (gL h M O n S).toArray
theorem gL_len {h : Hv} (o : h.Ok) (M O : Value) (n : Int) (S : Value) : (gL h M O n S).length = 41 := by simp [gL, hL_len o]
theorem gA_size {h : Hv} (o : h.Ok) (M O : Value) (n : Int) (S : Value) : (gA h M O n S).size = 41 := by simp [gA, gL_len o]
theorem zDidA : (Tryd.prog.info? 54).bind (·.zero) = some (.agg (gA h0 nilS nilS 0 nilS)) := by kernel_rfl
theorem zRun : (Tryd.prog.info? 99).bind (·.zero) = some (.agg (uA (mstart h0 []) nilS nilS nilS 0 0)) := by kernel_rfl
theorem iDidA : (Tryd.prog.info? 54).map (·.size) = some 41 := by kernel_rfl
theorem iHa : (Tryd.prog.info? 48).map (·.size) = some 37 := by kernel_rfl
theorem built_didA {h : Hv} (o : h.Ok) (v : Value) (hv : v.cells = #[v]) : Tryd.prog.built 54 [(0, .agg (hA h)), (1, v)] = some (gA h v nilS 0 nilS) := by
  obtain ⟨it, hi, hz⟩ := info_zero zDidA
  have hsz : (gA h0 nilS nilS 0 nilS).size = 41 := gA_size h0_ok _ _ _ _
  have hsz2 := gA_size o v nilS 0 nilS
  have hl := hL_len o
  have hl0 := hL_len h0_ok
  refine built_two (n := 37) hi Tryd.underlying54 hz (ps := [(0, 37), (37, 1), (38, 1), (39, 1), (40, 1)]) (by kernel_rfl) rfl rfl (hA h) (hA_size o) v hv (by show 38 ≤ (gA _ _ _ _ _).size; rw [hsz]; omega) _ ?_ ?_ ?_ ?_
  · show _ = (gA _ _ _ _ _).size; rw [hsz, hsz2]
  · intro k hk
    unfold gA gL hA
    rw [List.getElem?_toArray, List.getElem?_toArray, List.getElem?_append_left (by omega)]
  · unfold gA gL
    rw [List.getElem?_toArray, List.getElem?_append_right (by omega), hl]
    rfl
  · intro k hk
    show _ = (gA _ _ _ _ _)[k]?
    unfold gA gL
    rw [List.getElem?_toArray, List.getElem?_toArray, List.getElem?_append_right (by omega), List.getElem?_append_right (by omega), hl, hl0]
    obtain ⟨j, hj⟩ : ∃ j, k - 37 = j + 1 := ⟨k - 38, by omega⟩
    rw [hj]
    rfl
/-- A struct of which the first, the third and the sixth field are said. -/
theorem built_run {P : Program} {t : TypeId} {it : TypeInfo} {z : Value} {fs : Array Field} {ps : List (Nat × Nat)} (hi : P.info? t = some it) (hu : P.underlying t = some (.struct fs)) (hz : it.zero = some z)
    (hp : fs.toList.mapM (fun f => (P.info? f.type).map fun i => (f.offset, i.size)) = some ps) {n p q m : Nat} (p0 : ps.toArray[0]? = some (0, n)) (p1 : ps.toArray[2]? = some (p, 1)) (p2 : ps.toArray[5]? = some (q, m)) (A : Array Value) (hA : A.size = n) (v : Value) (hv : v.cells = #[v]) (B : Array Value) (hB : B.size = m)
    (hn : n ≤ p) (hq : p < q) (hs : q + m ≤ z.cells.size)
    (R : Array Value) (h1 : ∀ k, k < n → R[k]? = A[k]?) (h2 : R[p]? = some v) (h4 : ∀ k, q ≤ k → k < q + m → R[k]? = B[k - q]?) (h3 : ∀ k, n ≤ k → k ≠ p → (k < q ∨ q + m ≤ k) → R[k]? = z.cells[k]?) : P.built t [(0, .agg A), (2, v), (5, .agg B)] = some R := by
  unfold Program.built
  simp only [hi, hu, hz, hp]
  have a1 := fold_set 0 A z.cells
  have a2 := fold_set p #[v] (A.zipIdx.foldl (fun cs (x : Value × Nat) => cs.setIfInBounds (0 + x.2) x.1) z.cells)
  have a3 := fold_set q B ((#[v] : Array Value).zipIdx.foldl (fun cs (x : Value × Nat) => cs.setIfInBounds (p + x.2) x.1) (A.zipIdx.foldl (fun cs (x : Value × Nat) => cs.setIfInBounds (0 + x.2) x.1) z.cells))
  unfold Instr.fill
  simp only [p0]
  have e : ∀ A : Array Value, (Value.agg A).cells = A := fun _ => rfl
  rw [e, if_neg (by simp [hA]; omega)]
  unfold Instr.fill
  simp only [p1]
  rw [hv, if_neg (by rw [a1.1]; simp; omega)]
  unfold Instr.fill
  simp only [p2]
  rw [e, if_neg (by rw [a2.1, a1.1]; simp [hB]; omega)]
  unfold Instr.fill
  congr 1
  apply Array.ext_getElem?
  intro k
  rw [a3.2 k, a2.2 k, a1.2 k, a2.1, a1.1]
  by_cases hk : k < n
  · rw [if_neg (by omega), if_neg (by simp; omega), if_pos (by omega), h1 k hk]; simp
  · by_cases hk2 : k = p
    · subst hk2
      rw [if_neg (by omega), if_pos (by simp; omega), h2]; simp
    · by_cases hk3 : q ≤ k ∧ k < q + m
      · rw [if_pos (by omega), h4 k hk3.1 hk3.2]
      · rw [if_neg (by omega), if_neg (by simp; omega), if_neg (by omega), h3 k (by omega) hk2 (by omega)]
theorem built_start {h : Hv} (o : h.Ok) (l : List UInt8) (v : Value) (bf bt : Int) : Tryd.prog.built 99 [(0, .agg (gA h v nilS 0 nilS)), (2, .int .u32 h.pc), (5, .agg #[.int .u32 bf, .int .u32 bt])] = some (uA (mstart h l) v nilS nilS bf bt) := by
  obtain ⟨it, hi, hz⟩ := info_zero zRun
  have ok0 : (mstart h0 []).Ok := ⟨h0_ok, rfl, fun j => by unfold mstart; simp only; match j with
    | 0 => decide
    | 1 => decide
    | 2 => decide
    | 3 => decide
    | j + 4 => simp, by decide, by decide⟩
  have hsz : (uA (mstart h0 []) nilS nilS nilS 0 0).size = 50 := uA_size ok0 _ _ _ _ _
  have hl := hL_len o
  have hl0 := hL_len h0_ok
  refine built_run (n := 41) (p := 45) (q := 48) (m := 2) hi Tryd.underlying99 hz (ps := [(0, 41), (41, 4), (45, 1), (46, 1), (47, 1), (48, 2)]) (by kernel_rfl) rfl rfl rfl (gA h v nilS 0 nilS) (gA_size o _ _ _ _) _ rfl _ rfl (by omega) (by omega) (by show 50 ≤ (uA _ _ _ _ _ _).size; rw [hsz]; omega) _ ?_ ?_ ?_ ?_
  · intro k hk
    unfold uA gA gL
    rw [List.getElem?_toArray, List.getElem?_toArray]
    by_cases h37 : k < 37
    · rw [List.getElem?_append_left (by show k < (hL h).length; omega), List.getElem?_append_left (by show k < (hL h).length; omega)]
      rfl
    · rw [List.getElem?_append_right (by show (hL h).length ≤ k; omega), List.getElem?_append_right (by show (hL h).length ≤ k; omega), show (hL (mstart h l).h).length = 37 from hl, hl]
      obtain ⟨j, hj⟩ : ∃ j, k - 37 = j := ⟨_, rfl⟩
      rw [hj]
      have : j = 0 ∨ j = 1 ∨ j = 2 ∨ j = 3 := by omega
      rcases this with rfl | rfl | rfl | rfl <;> rfl
  · unfold uA
    rw [List.getElem?_toArray, List.getElem?_append_right (by show (hL h).length ≤ 45; omega), show (hL (mstart h l).h).length = 37 from hl]
    rfl
  · intro k h1 h2
    unfold uA
    rw [List.getElem?_toArray, List.getElem?_append_right (by show (hL h).length ≤ k; omega), show (hL (mstart h l).h).length = 37 from hl]
    have : k = 48 ∨ k = 49 := by omega
    rcases this with rfl | rfl <;> rfl
  · intro k h1 h2 h3
    show _ = (uA _ _ _ _ _ _)[k]?
    unfold uA
    rw [List.getElem?_toArray, List.getElem?_toArray, List.getElem?_append_right (by show (hL h).length ≤ k; omega), List.getElem?_append_right (by show (hL h0).length ≤ k; omega), show (hL (mstart h l).h).length = 37 from hl, show (hL (mstart h0 []).h).length = 37 from hl0]
    obtain ⟨j, hj⟩ : ∃ j, k = 41 + j := ⟨k - 41, by omega⟩
    subst hj
    by_cases h9 : j < 9
    · have : j = 0 ∨ j = 1 ∨ j = 2 ∨ j = 3 ∨ j = 5 ∨ j = 6 := by omega
      rcases this with rfl | rfl | rfl | rfl | rfl | rfl <;> rfl
    · rw [List.getElem?_eq_none (by rw [show (uT (mstart h l) v nilS nilS bf bt).length = 13 from rfl]; omega), List.getElem?_eq_none (by rw [show (uT (mstart h0 []) nilS nilS nilS 0 0).length = 13 from rfl]; omega)]
theorem start_ok {h : Hv} (o : h.Ok) (l : List UInt8) : (mstart h l).Ok :=
  ⟨o, rfl, fun j => by unfold mstart; simp only; match j with
    | 0 => decide
    | 1 => decide
    | 2 => decide
    | 3 => decide
    | j + 4 => simp, o.pc0, o.pc1⟩
theorem atW {p : World → Prop} {x : World} (F : World → Prop) (hF : F x) (h : ∀ y, F y → p y) : p x := h x hF
/-- In world w, a Did of the cells M, O, S reads as the run r. -/
structure Dr (w : World) (r : Rn) (M O S : Value) : Prop where
  ok : r.Ok
  mem : ∃ ao c, M = .slice ao r.m.length c ∧ Mem w ao r.m.length r.m
  out : ∃ b, w.ownsRow b 38 1 O r.out.length (r.out.map (Value.int .u32))
  sto : ∃ b, w.ownsRow b 50 2 S r.sto.length (rgs r.sto)
theorem RV.did {w : World} {base g : Nat} {r : Rn} {bf bt : Int} {M O S : Value} (V : RV w base g r bf bt M O S) : w.rangeAt g 0 (gL r.h M O r.n S) := by
  intro j v hv
  rw [Nat.zero_add, V.cell j]
  have hl := hL_len V.ok.h
  unfold gL at hv
  unfold uA
  rw [List.getElem?_toArray]
  by_cases h37 : j < 37
  · rw [List.getElem?_append_left (by omega)] at hv ⊢
    exact hv
  · rw [List.getElem?_append_right (by omega), hl] at hv ⊢
    obtain ⟨k, hk⟩ : ∃ k, j - 37 = k := ⟨_, rfl⟩
    rw [hk] at hv ⊢
    match k, hv with
    | 0, hv => exact hv
    | 1, hv => exact hv
    | 2, hv => exact hv
    | 3, hv => exact hv
    | k + 4, hv => simp at hv
theorem gA_one {h : Hv} {M O S : Value} {n : Int} (h1 : M.oneCell' = true) (h2 : O.oneCell' = true) (h3 : S.oneCell' = true) : (gA h M O n S).all (·.oneCell') = true := by
  refine all_oneCell_toArray ?_
  intro v hv
  simp only [gL, hL, List.mem_append, List.mem_map, List.mem_cons, List.not_mem_nil, or_false] at hv
  rcases hv with (⟨n, _, rfl⟩ | rfl | rfl | rfl | rfl | rfl) | rfl | rfl | rfl | rfl <;> first | rfl | assumption
theorem RV.ones {w : World} {base g : Nat} {r : Rn} {bf bt : Int} {M O S : Value} (V : RV w base g r bf bt M O S) : (gL r.h M O r.n S).toArray.all (·.oneCell') = true := by
  obtain ⟨ao, c, e1⟩ := V.mem.form
  obtain ⟨a2, c2, e2⟩ := owns_word V.out
  obtain ⟨a3, c3, e3⟩ := owns_word V.sto
  exact gA_one (by rw [e1]; rfl) (by rw [e2]; rfl) (by rw [e3]; rfl)
/-- Behind the store of the result, at block k. -/
theorem RV.dr {w : World} {base g : Nat} {r : Rn} {bf bt : Int} {M O S : Value} (V : RV w base g r bf bt M O S) {k : Nat} (hk : base ≤ k) {Z : Array Value} (hb : w.heap[k]? = some (.cells Z 54 (0, 0))) (cs : Array Value) : Dr (w.setRow k cs) r M O S := by
  have ne : ∀ {t : Nat}, t ≠ 54 → ∀ {j : Nat} {o : Array Value} {f : Nat × Nat}, w.heap[j]? = some (.cells o t f) → (w.setRow k cs).heap[j]? = w.heap[j]? := fun ht _ _ _ hj => setRow_other _ _ _ _ (ne_of_types hj hb ht)
  obtain ⟨ao, c, e, m, far⟩ := V.mem.keep (w' := w.setRow k cs) (fun j hj => setRow_other _ _ _ _ (by omega)) (fun j o f hj => ne (by decide) hj)
  exact ⟨V.ok, ⟨ao, c, e, m⟩, ⟨base, owns_to V.out fun j o f hj => ne (by decide) hj⟩, ⟨base, owns_to V.sto fun j o f hj => ne (by decide) hj⟩⟩
theorem Fu.gr {w a b : World} (h : Fu w.heap.size a b) (G : Gr w a) : Gr w b := Below.trans G h.below
theorem Play_any {w : World} {ao : Option Addr} {n : Nat} (cap : Nat) {code : List Mv} (C : Cs w ao n code) (hmay : mayC code = true) {h : Hv} (oh : h.Ok) {mo : Option Addr} {ml : Nat} (mc : Nat) {l : List UInt8} (Mm : Mem w mo ml l) (hl : ml ≤ 4096) (bf bt steps : Int) :
    Calls Tryd.prog 18 #[.slice ao n cap, .agg (hA h), .slice mo ml mc, .agg #[.int .u32 bf, .int .u32 bt], .int .i64 steps] w fun e w' => ∃ M O S, e = .returned (.agg (gA (mplay bf bt steps h l code).h M O (mplay bf bt steps h l code).n S)) ∧ Dr w' (mplay bf bt steps h l code) M O S ∧ Gr w w' := by
  have HB1 : Hid (Tryd.prog.built 54 [(0, .agg (hA h)), (1, .slice mo ml mc)] = some (gA h (.slice mo ml mc) nilS 0 nilS)) := built_didA oh _ rfl
  have HB2 : Hid (Tryd.prog.built 99 [(0, .agg (gA h (.slice mo ml mc) nilS 0 nilS)), (2, .int .u32 h.pc), (5, .agg #[.int .u32 bf, .int .u32 bt])] = some (uA (mstart h l) (.slice mo ml mc) nilS nilS bf bt)) := built_start oh l _ bf bt
  have HSH : Hid ((hA h).size = 37) := hA_size oh
  have HSU : Hid ((uA (mstart h l) (.slice mo ml mc) nilS nilS bf bt).size = 50) := uA_size (start_ok oh l) _ _ _ _ _
  have h32 : (hA h)[32]? = some (.int .u32 h.pc) := by unfold hA; rw [List.getElem?_toArray]; exact hL_fld oh 0
  have HV : Hid (∀ X : World, X.heap.size = w.heap.size + 1 + 1 + 1 → Gr w X → RV (X.alloc (.cells (uA (mstart h l) (.slice mo ml mc) nilS nilS bf bt) 99)) w.heap.size (w.heap.size + 1 + 1 + 1) (mstart h l) bf bt (.slice mo ml mc) nilS nilS) := fun X hX G => by
    have G2 : Gr w (X.alloc (.cells (uA (mstart h l) (.slice mo ml mc) nilS nilS bf bt) 99)) := G.alloc _
    refine ⟨start_ok oh l, by omega, by rw [← hX]; exact heap_alloc_new X _, ⟨mo, mc, ?_, ?_, ?_⟩, World.ownsRow_nil _ _ _ _, World.ownsRow_nil _ _ _ _⟩
    · show Value.slice mo ml mc = .slice mo l.length mc
      rw [Mm.len]
    · show Mem _ mo l.length l
      rw [Mm.len]
      exact Mm.of G2
    · intro ad e h0
      have hlen : 0 < ml := by have := Mm.len; have h1 : 0 < l.length := h0; omega
      obtain ⟨b, o, e2, hb, _⟩ := Mm.spot hlen
      rw [e] at e2
      obtain rfl := Option.some.inj e2
      exact .inl hb
  have HMl : Hid (l.length = ml) := Mm.len
  have HC : Hid (Cs w ao n code) := C
  have HCL : Hid (code.length = n) := C.len
  have HMay : Hid (code.length ≤ 200 ∧ ∀ i ∈ code, micOk i = true) := by
    unfold mayC at hmay
    simp only [Bool.and_eq_true, decide_eq_true_eq, List.all_eq_true] at hmay
    exact hmay
  have HOH : Hid h.Ok := oh
  have n200 : n ≤ 200 := by have := HMay.out.1; have := HCL.out; omega
  clear C hmay Mm oh
  generalize hHA : hA h = H0 at *
  generalize hUA : uA (mstart h l) (.slice mo ml mc) nilS nilS bf bt = U0 at *
  generalize hGA : gA h (.slice mo ml mc) nilS 0 nilS = G0 at *
  clear hHA hUA hGA
  generalize h.pc = pc at *
  go_enter Tryd.func18, Tryd.ntmps18
  go_wp2_with (first
    | (refine wpList_load_row rfl 48 (.tmp 6) rfl w.heap.size rfl 48 H0 (0, 0) _ ?lh1 Tryd.underlying48 rfl (by rw [HSH.out]; exact iHa) ?_; (case lh1 => exact heap_up (((Gr.refl _).alloc _).alloc _) (heap_alloc_new w _)))
    | (refine wpList_buildTo rfl 54 _ rfl _ rfl G0 (by have := HB1.out; simp [Act.eval, Act.put]; exact this) ?_)
    | (refine wpList_buildTo rfl 99 _ rfl _ rfl U0 (by have := HB2.out; simp [Act.eval, Act.put]; exact this) ?_))
  refine atW (fun X => RV X w.heap.size (w.heap.size + 1 + 1 + 1) (mstart h l) bf bt (.slice mo ml mc) nilS nilS ∧ (∃ Z : Array Value, Z.size = 41 ∧ X.heap[w.heap.size + 1 + 1]? = some (.cells Z 54 (0, 0))) ∧ Gr w X) ?_ ?_
  · refine ⟨HV.out _ (by simp) ((((Gr.refl _).alloc _).alloc _).alloc _), ⟨_, ?_, heap_up ((Gr.refl _).alloc _) (by have := heap_alloc_new ((w.alloc (.cells H0 48)).alloc (.cells #[.int .u32 bf, .int .u32 bt] 50)) (.cells #[.int .u32 0, .int .u32 0, .int .u32 0, .int .u32 0, .int .u32 0, .int .u32 0, .int .u32 0, .int .u32 0, .int .u32 0, .int .u32 0, .int .u32 0, .int .u32 0, .int .u32 0, .int .u32 0, .int .u32 0, .int .u32 0, .int .u32 0, .int .u32 0, .int .u32 0, .int .u32 0, .int .u32 0, .int .u32 0, .int .u32 0, .int .u32 0, .int .u32 0, .int .u32 0, .int .u32 0, .int .u32 0, .int .u32 0, .int .u32 0, .int .u32 0, .int .u32 0, .int .u32 0, .bool false, .int .u32 0, .int .i64 0, .int .i64 0, .slice none 0 0, .slice none 0 0, .int .i64 0, .slice none 0 0] 54 (0, 0)); rwa [World.size_alloc, World.size_alloc] at this)⟩, (((((Gr.refl _).alloc _).alloc _).alloc _).alloc _)⟩
    rfl
  rintro X ⟨V0, ⟨Z, hZ, BZ⟩, GX⟩
  have HV0 : Hid (RV X w.heap.size (w.heap.size + 1 + 1 + 1) (mstart h l) bf bt (.slice mo ml mc) nilS nilS) := V0
  have HBZ : Hid (X.heap[w.heap.size + 1 + 1]? = some (.cells Z 54 (0, 0))) := BZ
  have HGX : Hid (Gr w X) := GX
  have HZ : Hid (Z.size = 41) := hZ
  clear V0 BZ GX HV HB1 HB2 HSH HSU h32 hZ
  go_loopw [12] (fun i wr => ∃ j : Nat, j ≤ n ∧ i = .int .i64 j ∧ Ru wr w.heap.size (w.heap.size + 1 + 1 + 1) (mrun bf bt steps (mstart h l) (code.take j)) bf bt ∧ wr.heap[w.heap.size + 1 + 1]? = some (.cells Z 54 (0, 0)) ∧ Gr w wr) (fun i _ => n - (intOf i).toNat)
  case atStart => exact ⟨0, Nat.zero_le _, rfl, ⟨_, _, _, HV0.out⟩, HBZ.out, HGX.out⟩
  case round =>
    obtain ⟨j, hj, rfl, R, B, G⟩ := hrel
    have HR : Hid (Ru wr w.heap.size (w.heap.size + 1 + 1 + 1) (mrun bf bt steps (mstart h l) (code.take j)) bf bt) := R
    have HB : Hid (wr.heap[w.heap.size + 1 + 1]? = some (.cells Z 54 (0, 0))) := B
    have HG : Hid (Gr w wr) := G
    obtain ⟨b1, b2, b3, b4⟩ := bd_mrun bf bt steps (mstart h l) code j
    have b1' : (mrun bf bt steps (mstart h l) (code.take j)).m.length ≤ 4096 := by rw [b1]; show l.length ≤ 4096; rw [HMl.out]; exact hl
    have b2' : (mrun bf bt steps (mstart h l) (code.take j)).sto.length ≤ 1000000 := by have : (mstart h l).sto.length = 0 := rfl; omega
    have b3' : (mrun bf bt steps (mstart h l) (code.take j)).out.length ≤ 1000000 := by have : (mstart h l).out.length = 0 := rfl; omega
    have b4' : (mrun bf bt steps (mstart h l) (code.take j)).n ≤ 1000000 := by have : (mstart h l).n = 0 := rfl; omega
    have HTk : Hid (∀ i, code[j]? = some i → (mrun bf bt steps (mstart h l) (code.take j)).over = false → mrun bf bt steps (mstart h l) (code.take (j + 1)) = mic bf bt steps (mrun bf bt steps (mstart h l) (code.take j)) i) := fun i hi ho => mrun_take bf bt steps hi ho
    have HDn : Hid ((mrun bf bt steps (mstart h l) (code.take j)).over = true ∨ j = n → mplay bf bt steps h l code = mend (mrun bf bt steps (mstart h l) (code.take j))) := fun hd => by
      unfold mplay
      rcases hd with ho | rfl
      · rw [mrun_done bf bt steps ho]
      · rw [← HCL.out, List.take_length]
    clear R B G b1 b2 b3 b4 HV0 HBZ HGX
    generalize mrun bf bt steps (mstart h l) (code.take j) = r at *
    obtain ⟨M, O, S, V⟩ := HR.out
    have HVr : Hid (RV wr w.heap.size (w.heap.size + 1 + 1 + 1) r bf bt M O S) := V
    have q47 : wr.cell? ⟨w.heap.size + 1 + 1 + 1, 47, none⟩ = some (.bool r.over) := (V.last 2).trans rfl
    have q39 : wr.cell? ⟨w.heap.size + 1 + 1 + 1, 39, none⟩ = some (.int .i64 r.n) := (V.top 2).trans rfl
    have q45 : wr.cell? ⟨w.heap.size + 1 + 1 + 1, 45, none⟩ = some (.int .u32 r.here) := (V.last 0).trans rfl
    have q32 : wr.cell? ⟨w.heap.size + 1 + 1 + 1, 32, none⟩ = some (.int .u32 r.h.pc) := V.fld (j := 0) (by omega)
    have f32 := V.fz 32
    have hgl : w.heap.size + 1 + 1 + 1 < wr.heap.size := V.lt
    have HW : Hid (W r.here) := ⟨V.ok.h0, V.ok.h1⟩
    cases hov : r.over with
    | true =>
      have HEq : Hid (mplay bf bt steps h l code = r) := by
        unfold Hid
        rw [HDn.out (.inl hov)]
        unfold mend
        rw [if_neg (by simp [hov])]
      rw [hov] at q47
      clear V HDn HTk HR HC HMay
      by_cases hlt : j < n
      · 
        have HDid : Hid (wr.rangeAt (w.heap.size + 1 + 1 + 1) 0 (gL r.h M O r.n S)) := HVr.out.did
        have HSZ : Hid ((gL r.h M O r.n S).length = 41) := gL_len HVr.out.ok.h _ _ _ _
        have HSA : Hid ((gL r.h M O r.n S).toArray.size = 41) := by unfold Hid; rw [List.size_toArray]; exact HSZ.out
        have HON : Hid ((gL r.h M O r.n S).toArray.all (·.oneCell') = true) := HVr.out.ones
        have HGA : Hid (gA r.h M O r.n S = (gL r.h M O r.n S).toArray) := rfl
        generalize gL r.h M O r.n S = D at *
        go_wp2_with (first
          | (refine wpList_load_mid rfl 54 _ rfl (w.heap.size + 1 + 1 + 1) 0 rfl D _ ?lm1 Tryd.underlying54 rfl (by rw [HSZ.out]; exact iDidA) ?_; (case lm1 => exact HDid.out))
          | (refine wpList_store_row rfl 54 _ _ rfl (w.heap.size + 1 + 1) D.toArray rfl rfl 54 Z ?sr1 (by rw [HSA.out]; exact iDidA) (by rw [HSA.out]; exact HZ.out) HON.out ?_; (case sr1 => exact HB.out)))
        refine bodyPost_ret (v := .agg D.toArray) (results_cell_row Tryd.results18 _ _ _ _ _ (0, 0) _ rfl (setRow_heap _ _ _ _ _ (0, 0) HB.out) Tryd.underlying54 rfl (by rw [HSA.out]; exact iDidA)) rfl ⟨M, O, S, ?_, ?_, ?_⟩
        · rw [HEq.out, HGA.out]
        · rw [HEq.out]
          exact HVr.out.dr (by omega) HB.out _
        · exact gr_setRow HG.out (by omega) _
      · have ej : j = n := by omega
        have HDid : Hid (wr.rangeAt (w.heap.size + 1 + 1 + 1) 0 (gL r.h M O r.n S)) := HVr.out.did
        have HSZ : Hid ((gL r.h M O r.n S).length = 41) := gL_len HVr.out.ok.h _ _ _ _
        have HSA : Hid ((gL r.h M O r.n S).toArray.size = 41) := by unfold Hid; rw [List.size_toArray]; exact HSZ.out
        have HON : Hid ((gL r.h M O r.n S).toArray.all (·.oneCell') = true) := HVr.out.ones
        have HGA : Hid (gA r.h M O r.n S = (gL r.h M O r.n S).toArray) := rfl
        generalize gL r.h M O r.n S = D at *
        go_wp2_with (first
          | (refine wpList_load_mid rfl 54 _ rfl (w.heap.size + 1 + 1 + 1) 0 rfl D _ ?lm1 Tryd.underlying54 rfl (by rw [HSZ.out]; exact iDidA) ?_; (case lm1 => exact HDid.out))
          | (refine wpList_store_row rfl 54 _ _ rfl (w.heap.size + 1 + 1) D.toArray rfl rfl 54 Z ?sr1 (by rw [HSA.out]; exact iDidA) (by rw [HSA.out]; exact HZ.out) HON.out ?_; (case sr1 => exact HB.out)))
        refine bodyPost_ret (v := .agg D.toArray) (results_cell_row Tryd.results18 _ _ _ _ _ (0, 0) _ rfl (setRow_heap _ _ _ _ _ (0, 0) HB.out) Tryd.underlying54 rfl (by rw [HSA.out]; exact iDidA)) rfl ⟨M, O, S, ?_, ?_, ?_⟩
        · rw [HEq.out, HGA.out]
        · rw [HEq.out]
          exact HVr.out.dr (by omega) HB.out _
        · exact gr_setRow HG.out (by omega) _
    | false =>
      rw [hov] at q47
      by_cases hlt : j < n
      · obtain ⟨c, hc⟩ : ∃ c, code[j]? = some c := ⟨_, List.getElem?_eq_getElem (by rw [HCL.out]; exact hlt)⟩
        obtain ⟨b, o, rfl, hb, hcell⟩ := (HC.out.of HG.out).spot (by omega)
        obtain ⟨p0, p1, p2, p3, p4⟩ := hcell j c hc
        have hmem := List.mem_of_getElem? hc
        obtain ⟨m0, ⟨m1, m2⟩, ⟨m3, m4⟩, m5, m6⟩ := micOk_named (HMay.out.2 c hmem)
        have On : Hid (Calls Tryd.prog 37 #[.pointer (some ⟨w.heap.size + 1 + 1 + 1, 0, none⟩), .agg #[.int .i64 c.op, .int .i64 c.d, .int .i64 c.a, .int .i64 c.b, .int .u32 c.n], .int .i64 steps] wr fun e w' => e = .returned (.tuple #[]) ∧ Ru w' w.heap.size (w.heap.size + 1 + 1 + 1) (mic bf bt steps r ⟨c.op, c.d, c.a, c.b, c.n⟩) bf bt ∧ Fu w.heap.size wr w') := one_any HR.out c.op c.d c.a c.b c.n steps m1 m2 m3 m4 m5 m6 (HC.out.wn c hmem) b1' b2' b3' b4' m0
        have HNx : Hid (mrun bf bt steps (mstart h l) (code.take (j + 1)) = mic bf bt steps r ⟨c.op, c.d, c.a, c.b, c.n⟩) := HTk.out c hc hov
        clear V hcell hc hmem HTk HDn m0 m1 m2 m3 m4 m5 m6 hov
        obtain ⟨op, d, a, b0, nn⟩ := c
        simp only at *
        generalize mic bf bt steps r ⟨op, d, a, b0, nn⟩ = r2 at *
        go_wp2_with fail
        refine On.out.mono ?_
        rintro e w2 ⟨rfl, R2, F2⟩
        have HR2 : Hid (Ru w2 w.heap.size (w.heap.size + 1 + 1 + 1) r2 bf bt) := R2
        have HG2 : Hid (Gr w w2) := F2.gr HG.out
        have HB2 : Hid (w2.heap[w.heap.size + 1 + 1]? = some (.cells Z 54 (0, 0))) := (F2.keep _ _ _ _ HB.out (by decide) (by decide) (by decide)).trans HB.out
        clear R2 F2 On q47 q39 q45 q32 f32 p0 p1 p2 p3 p4 HVr HR HB HG
        go_wp2_with fail
        go_roundw
        case rel => exact ⟨j + 1, by omega, by go_num, by rw [HNx.out]; exact HR2.out, HB2.out, HG2.out⟩
        case measure => simp [intOf]; omega
      · have ej : j = n := by omega
        by_cases hz : r.n = 0
        · have HEq : Hid (mplay bf bt steps h l code = r) := by
            unfold Hid
            rw [HDn.out (.inr ej)]
            unfold mend
            rw [if_neg (by omega)]
          have hz2 : (r.n : Int) = 0 := by omega
          clear V HDn HTk HR HC HMay
          have HDid : Hid (wr.rangeAt (w.heap.size + 1 + 1 + 1) 0 (gL r.h M O r.n S)) := HVr.out.did
          have HSZ : Hid ((gL r.h M O r.n S).length = 41) := gL_len HVr.out.ok.h _ _ _ _
          have HSA : Hid ((gL r.h M O r.n S).toArray.size = 41) := by unfold Hid; rw [List.size_toArray]; exact HSZ.out
          have HON : Hid ((gL r.h M O r.n S).toArray.all (·.oneCell') = true) := HVr.out.ones
          have HGA : Hid (gA r.h M O r.n S = (gL r.h M O r.n S).toArray) := rfl
          generalize gL r.h M O r.n S = D at *
          go_wp2_with (first
            | (refine wpList_load_mid rfl 54 _ rfl (w.heap.size + 1 + 1 + 1) 0 rfl D _ ?lm1 Tryd.underlying54 rfl (by rw [HSZ.out]; exact iDidA) ?_; (case lm1 => exact HDid.out))
            | (refine wpList_store_row rfl 54 _ _ rfl (w.heap.size + 1 + 1) D.toArray rfl rfl 54 Z ?sr1 (by rw [HSA.out]; exact iDidA) (by rw [HSA.out]; exact HZ.out) HON.out ?_; (case sr1 => exact HB.out)))
          refine bodyPost_ret (v := .agg D.toArray) (results_cell_row Tryd.results18 _ _ _ _ _ (0, 0) _ rfl (setRow_heap _ _ _ _ _ (0, 0) HB.out) Tryd.underlying54 rfl (by rw [HSA.out]; exact iDidA)) rfl ⟨M, O, S, ?_, ?_, ?_⟩
          · rw [HEq.out, HGA.out]
          · rw [HEq.out]
            exact HVr.out.dr (by omega) HB.out _
          · exact gr_setRow HG.out (by omega) _
        · have wp := W.lo (r.here + 4)
          have V2 := V.hart (i := 32) (by omega) (set_pc V.ok.h (Wd.lo (r.here + 4))) (V.ok.h.go wp.1 wp.2)
          have HEq : Hid (mplay bf bt steps h l code = { r with h := r.h.go (Wd.lo (r.here + 4)) }) := by
            unfold Hid
            rw [HDn.out (.inr ej)]
            unfold mend
            rw [if_pos ⟨hov, by omega⟩]
          have HV2 : Hid (RV (wr.setCell ⟨w.heap.size + 1 + 1 + 1, 32, none⟩ (.int .u32 (Wd.lo (r.here + 4)))) w.heap.size (w.heap.size + 1 + 1 + 1) { r with h := r.h.go (Wd.lo (r.here + 4)) } bf bt M O S) := V2
          have HB2 : Hid ((wr.setCell ⟨w.heap.size + 1 + 1 + 1, 32, none⟩ (.int .u32 (Wd.lo (r.here + 4)))).heap[w.heap.size + 1 + 1]? = some (.cells Z 54 (0, 0))) := (heap_setCell_other _ _ _ _ (by show w.heap.size + 1 + 1 ≠ w.heap.size + 1 + 1 + 1; omega)).trans HB.out
          have HG2 : Hid (Gr w (wr.setCell ⟨w.heap.size + 1 + 1 + 1, 32, none⟩ (.int .u32 (Wd.lo (r.here + 4))))) := HG.out.setCell (by show w.heap.size ≤ w.heap.size + 1 + 1 + 1; omega) _
          have Sm : Hid (∀ V : World, Calls Tryd.prog 38 #[.int .u32 r.here, .int .u32 4] V fun e w' => e = .returned (.int .u32 (Wd.lo (r.here + 4))) ∧ w' = V) := fun V => sum_any r.here 4 V HW.out ⟨by omega, by omega⟩
          have hz2 : 0 < (r.n : Int) := by omega
          clear V V2 HDn HTk HR HC HMay hov wp
          generalize Wd.lo (r.here + 4) = y at *
          generalize hr2 : ({ r with h := r.h.go y } : Rn) = r2 at *
          have hn2 : r.n = r2.n := by rw [← hr2]
          go_wp2_with fail
          refine (Sm.out _).mono ?_
          rintro e w2 ⟨rfl, rfl⟩
          clear Sm
          have HDid : Hid ((w2.setCell ⟨w.heap.size + 1 + 1 + 1, 32, none⟩ (.int .u32 y)).rangeAt (w.heap.size + 1 + 1 + 1) 0 (gL r2.h M O r2.n S)) := HV2.out.did
          have HSZ : Hid ((gL r2.h M O r2.n S).length = 41) := gL_len HV2.out.ok.h _ _ _ _
          have HSA : Hid ((gL r2.h M O r2.n S).toArray.size = 41) := by unfold Hid; rw [List.size_toArray]; exact HSZ.out
          have HON : Hid ((gL r2.h M O r2.n S).toArray.all (·.oneCell') = true) := HV2.out.ones
          have HGA : Hid (gA r2.h M O r2.n S = (gL r2.h M O r2.n S).toArray) := rfl
          generalize gL r2.h M O r2.n S = D at *
          go_wp2_with (first
            | (refine wpList_load_mid rfl 54 _ rfl (w.heap.size + 1 + 1 + 1) 0 rfl D _ ?lm1 Tryd.underlying54 rfl (by rw [HSZ.out]; exact iDidA) ?_; (case lm1 => exact HDid.out))
            | (refine wpList_store_row rfl 54 _ _ rfl (w.heap.size + 1 + 1) D.toArray rfl rfl 54 Z ?sr1 (by rw [HSA.out]; exact iDidA) (by rw [HSA.out]; exact HZ.out) HON.out ?_; (case sr1 => exact HB2.out)))
          refine bodyPost_ret (v := .agg D.toArray) (results_cell_row Tryd.results18 _ _ _ _ _ (0, 0) _ rfl (setRow_heap _ _ _ _ _ (0, 0) HB2.out) Tryd.underlying54 rfl (by rw [HSA.out]; exact iDidA)) rfl ⟨M, O, S, ?_, ?_, ?_⟩
          · rw [HEq.out, HGA.out]
          · rw [HEq.out]
            exact HV2.out.dr (by omega) HB2.out _
          · exact gr_setRow HG2.out (by omega) _
end Go.Proofs.YtbihifipemldhabDoor.Mi
/-
  The hart's own steps within a block, as plain data ('bst').
-/
namespace Go.Proofs.YtbihifipemldhabDoor.Ts
open Mm Hh Mi

/-- Does a store meet the block's bytes? -/
def hitB (bpc last : Int) (p : Int × Int) : Bool := decide (p.1 < last ∧ bpc < Wd.lo (p.1 + p.2))
def b1 (r : Rn) : Rn := { r with h := (stp r.h r.m).h, m := (stp r.h r.m).m, out := r.out ++ (stp r.h r.m).out, n := r.n + 1, sto := r.sto ++ (stp r.h r.m).sto }
/-- Is the k-th step the last one? -/
def bstop (bpc last : Int) (k : Nat) (S : Sv) : Bool := decide (¬ S.h.state = 0) || (decide (¬ S.h.pc = Wd.lo (bpc + (4 * k + 4))) || S.sto.any (hitB bpc last))
/-- So many steps at most, from the k-th one on. -/
def bst (bpc last steps : Int) : Nat → Nat → Rn → Rn
  | 0, _, r => r
  | f + 1, k, r => if (r.n : Int) < steps then (if bstop bpc last k (stp r.h r.m) = true then b1 r else bst bpc last steps f (k + 1) (b1 r)) else r
end Go.Proofs.YtbihifipemldhabDoor.Ts
/-
  What is true of a step, as plain data: a hart that may be stays one; register 0 stays 0; the memory is as long as it was; one that traps or halts leaves all else.
-/
namespace Go.Proofs.YtbihifipemldhabDoor.Hh
open Mm Wd

/-- A hart that may be and runs. -/
structure Rn (h : Hv) : Prop where
  z : rg h 0 = 0
  hd : h.held = false → h.heldAt = 0
  st : h.state = 0
  cs : h.cause = 0
theorem rn_of {h : Hv} (m : may h = true) (s : h.state = 0) : Rn h := by
  simp only [may, decide_eq_true_eq] at m
  obtain ⟨a, b, c⟩ := m
  exact ⟨a, b, s, by omega⟩
/-- What a step leaves of a hart: it runs on, or all but State and Cause is as it was. -/
def Good (h : Hv) (l : List UInt8) (s : Sv) : Prop := may s.h = true ∧ s.m.length = l.length ∧ rg s.h 0 = 0 ∧ s.out.length ≤ 1 ∧ (s.h.state ≠ 0 → { s.h with state := h.state, cause := h.cause } = h ∧ s.m = l ∧ s.out = [])
theorem may_run {h : Hv} (z : rg h 0 = 0) (hd : h.held = false → h.heldAt = 0) (s : h.state = 0) (c : h.cause = 0) : may h = true := by
  simp only [may, decide_eq_true_eq]; exact ⟨z, hd, .inl ⟨.inl s, c⟩⟩
theorem good_run {h h' : Hv} {l m : List UInt8} {out : List Int} {sto : List (Int × Int)} (z : rg h' 0 = 0) (hd : h'.held = false → h'.heldAt = 0) (s : h'.state = 0) (c : h'.cause = 0) (hm : m.length = l.length) (ho : out.length ≤ 1) : Good h l ⟨h', m, out, sto⟩ :=
  ⟨may_run z hd s c, hm, z, ho, fun h => absurd s h⟩
theorem good_trap {h : Hv} (r : Rn h) (l : List UInt8) {c : Int} (c0 : 1 ≤ c) (c1 : c ≤ 6) : Good h l ⟨h.trap c, l, [], []⟩ := by
  refine ⟨?_, rfl, r.z, by simp, fun _ => ⟨?_, rfl, rfl⟩⟩
  · simp only [may, decide_eq_true_eq]; exact ⟨r.z, r.hd, .inr ⟨rfl, c0, c1⟩⟩
  · cases h; rfl
theorem good_halt {h : Hv} (r : Rn h) (l : List UInt8) : Good h l ⟨h.halt, l, [], []⟩ := by
  refine ⟨?_, rfl, r.z, by simp, fun _ => ⟨?_, rfl, rfl⟩⟩
  · simp only [may, decide_eq_true_eq]; exact ⟨r.z, r.hd, .inl ⟨.inr rfl, r.cs⟩⟩
  · cases h; rfl
theorem rg0_set {h : Hv} (z : rg h 0 = 0) (r : Nat) (x : Int) : rg (h.set r x) 0 = 0 := by
  unfold Hv.set; split
  · exact z
  · rw [rg_set, if_neg (by omega)]; exact z
theorem set_flds (h : Hv) (r : Nat) (x : Int) : (h.set r x).held = h.held ∧ (h.set r x).heldAt = h.heldAt ∧ (h.set r x).state = h.state ∧ (h.set r x).cause = h.cause := by
  unfold Hv.set; split <;> exact ⟨rfl, rfl, rfl, rfl⟩
/-- An instruction that runs on: Rd set or not, and on at nx. -/
theorem good_done {h h' : Hv} {l m : List UInt8} {out : List Int} {sto : List (Int × Int)} (r : Rn h') (res : Option Int) (rd : Nat) (nx : Int) (hm : m.length = l.length) (ho : out.length ≤ 1) : Good h l (done ⟨h', m, out, sto, res⟩ rd nx) := by
  unfold done Hv.put
  cases res with
  | none =>
    simp only
    unfold Hv.on
    rw [if_pos r.st]
    exact good_run r.z r.hd r.st r.cs hm ho
  | some x =>
    obtain ⟨f1, f2, f3, f4⟩ := set_flds h' rd x
    simp only
    unfold Hv.on
    rw [if_pos (f3.trans r.st)]
    exact good_run (h' := (h'.set rd x).go nx) (rg0_set r.z rd x) (by show (h'.set rd x).held = false → (h'.set rd x).heldAt = 0; rw [f1, f2]; exact r.hd) (f3.trans r.st) (f4.trans r.cs) hm ho
theorem good_stop {h : Hv} (r : Rn h) (l : List UInt8) {c : Int} (c0 : 1 ≤ c) (c1 : c ≤ 6) (rd : Nat) (nx : Int) : Good h l (done ⟨h.trap c, l, [], [], none⟩ rd nx) := by
  unfold done Hv.put Hv.on
  simp only
  rw [if_neg (by show ¬ (2 : Int) = 0; omega)]
  exact good_trap r l c0 c1
theorem rn_hold {h : Hv} (r : Rn h) (a : Int) : Rn (h.hold true a) := ⟨r.z, fun e => (by cases e), r.st, r.cs⟩
theorem rn_loose {h : Hv} (r : Rn h) : Rn (h.hold false 0) := ⟨r.z, fun _ => rfl, r.st, r.cs⟩
theorem good_ins {h : Hv} (r : Rn h) (l : List UInt8) (op rd r1 r2 im : Int) : Good h l (ins h l op rd r1 r2 im) := by
  unfold ins eff
  split
  · exact good_done r _ _ _ rfl (by simp)
  split
  · exact good_done r _ _ _ rfl (by simp)
  split
  · exact good_done r _ _ _ rfl (by simp)
  split
  · unfold efLoad; split
    · exact good_done r _ _ _ rfl (by simp)
    · exact good_stop r l (by omega) (by omega) _ _
  split
  · unfold efStore; split
    · exact good_done r _ _ _ (stL_len' (by assumption)) (by simp)
    · exact good_stop r l (by omega) (by omega) _ _
  split
  · exact good_done r _ _ _ rfl (by simp)
  split
  · exact good_done r _ _ _ rfl (by simp)
  split
  · unfold efAtom; split
    · unfold efLr; split
      · exact good_done (rn_hold r _) _ _ _ rfl (by simp)
      · exact good_stop r l (by omega) (by omega) _ _
    · split
      · unfold efSc; split
        · split
          · exact good_done (rn_loose r) _ _ _ (stL_len' (st_of_ld (by assumption))) (by simp)
          · exact good_done (rn_loose r) _ _ _ rfl (by simp)
        · exact good_stop r l (by omega) (by omega) _ _
      · unfold efAmo; split
        · exact good_done r _ _ _ (stL_len' (st_of_ld (by assumption))) (by simp)
        · exact good_stop r l (by omega) (by omega) _ _
  split
  · unfold efCall; split
    · unfold done Hv.put Hv.on
      simp only
      rw [if_neg (by show ¬ (1 : Int) = 0; omega)]
      exact good_halt r l
    · split
      · exact good_done r _ _ _ rfl (by simp)
      · exact good_stop r l (by omega) (by omega) _ _
  split
  · exact good_stop r l (by omega) (by omega) _ _
  · exact good_done r _ _ _ rfl (by simp)
theorem good_stp {h : Hv} (r : Rn h) (l : List UInt8) : Good h l (stp h l) := by
  unfold stp insW
  split
  · split
    · exact good_trap r l (by omega) (by omega)
    · exact good_ins r l _ _ _ _ _
  · exact good_trap r l (by omega) (by omega)
theorem done_ok {e : Ev} {l : List UInt8} (o : e.Ok l) (rd : Nat) {nx : Int} (w : W nx) : (done e rd nx).h.Ok := on_ok (put_ok o.h rd o.res) w
theorem stp_ok {h : Hv} (o : h.Ok) (l : List UInt8) : (stp h l).h.Ok := by
  unfold stp insW ins
  split
  · split
    · exact o.trap 2
    · exact done_ok (eff_ok o l (W.reg o _) (W.reg o _) (W.lo _)) _ .nxt
  · exact o.trap 1
end Go.Proofs.YtbihifipemldhabDoor.Hh
/-
  Harts that take turns, as plain data: no program in sight. What is proved here: a pick of so many steps is two of as many together; a script behind another does what it does behind the other; harts that may be stay such, the memory is as long as it was, and what comes out is no more than the steps.
-/
namespace Go.Proofs.YtbihifipemldhabDoor.Mc
open Mm Hh

end Go.Proofs.YtbihifipemldhabDoor.Mc
/-
  A hart at its work over many steps, and what the others lose behind it, as plain data: so many steps done by one hart alone, and what it stored told to the others at their end, is the same as step by step.
-/
namespace Go.Proofs.YtbihifipemldhabDoor.Mc
open Mm Hh Wd

/-- Where a step stores: within the memory. -/
def StOk (l : List UInt8) (p : Int × Int) : Prop := 0 ≤ p.1 ∧ 0 < p.2 ∧ p.1 + p.2 ≤ l.length
theorem sto_st {l : List UInt8} {op a : Int} (ha : 0 ≤ a) (h : stOk l op a = true) : StOk l (a, (ssz op : Nat)) := by
  unfold stOk thr at h
  rw [decide_eq_true_eq] at h
  exact ⟨ha, by simpa using h.1, h.2.2⟩
theorem eff_sto {h : Hv} (o : h.Ok) (l : List UInt8) {op a b n : Int} (ha : W a) : ∀ p ∈ (eff h l op a b n).sto, StOk l p := by
  unfold eff
  intro p hp
  split at hp
  · simp at hp
  split at hp
  · simp at hp
  split at hp
  · simp at hp
  split at hp
  · unfold efLoad at hp; split at hp <;> simp at hp
  split at hp
  · unfold efStore at hp
    split at hp
    · simp at hp
      subst hp
      exact sto_st (W.lo _).1 (by assumption)
    · simp at hp
  split at hp
  · simp at hp
  split at hp
  · simp at hp
  split at hp
  · unfold efAtom at hp
    split at hp
    · unfold efLr at hp; split at hp <;> simp at hp
    split at hp
    · unfold efSc at hp
      split at hp
      · split at hp
        · simp at hp
          subst hp
          exact sto_st (op := 18) ha.1 (st_of_ld (by assumption))
        · simp at hp
      · simp at hp
    · unfold efAmo at hp
      split at hp
      · simp at hp
        subst hp
        exact sto_st (op := 18) ha.1 (st_of_ld (by assumption))
      · simp at hp
  split at hp
  · unfold efCall at hp
    split at hp
    · simp at hp
    · split at hp <;> simp at hp
  split at hp <;> simp at hp
theorem stp_sto {h : Hv} (o : h.Ok) (l : List UInt8) : (∀ p ∈ (stp h l).sto, StOk l p) ∧ (stp h l).sto.length ≤ 1 := by
  unfold stp insW ins
  split
  · split
    · exact ⟨fun p hp => by simp at hp, by simp⟩
    · exact ⟨eff_sto o l (W.reg o _), (eff_ok o l (W.reg o _) (W.reg o _) (W.lo _)).sto⟩
  · exact ⟨fun p hp => by simp at hp, by simp⟩

end Go.Proofs.YtbihifipemldhabDoor.Mc
/-
  Harts and picks as slices; whether a script may be, as plain data.
-/
namespace Go.Proofs.YtbihifipemldhabDoor.Mc
open Go.ChangeShapes Go.WideShapes Go.ChangeAt Go.RowKit Mm Hh

end Go.Proofs.YtbihifipemldhabDoor.Mc
/-
  Harts in a row of the program's own: read, and written over, hart by hart and field by field.
-/
namespace Go.Proofs.YtbihifipemldhabDoor.Mc
open Go.ChangeShapes Go.WideShapes Go.ChangeAt Go.RowKit Mm Hh

/-- Many cells set, one behind the other: what the block holds. -/
theorem heap_setCells {t : Nat} (g : Nat) : ∀ (vs : List Value) (o : Nat) (w : World) (cs : List Value), w.heap[g]? = some (.cells cs.toArray t (0, 0)) → o + vs.length ≤ cs.length → (w.setCells g o vs).heap[g]? = some (.cells (cs.take o ++ vs ++ cs.drop (o + vs.length)).toArray t (0, 0))
  | [], o, w, cs, h, _ => by simp [World.setCells, h]
  | v :: r, o, w, cs, h, hl => by
    rw [World.setCells]
    have h1 := heap_setCell_same w g o _ _ v h
    simp only [List.setIfInBounds_toArray] at h1
    simp only [List.length_cons] at hl
    rw [heap_setCells g r (o + 1) _ (cs.set o v) h1 (by simp; omega)]
    have e1 : (cs.set o v).take (o + 1) = cs.take o ++ [v] := by
      rw [List.take_add_one, List.take_set, List.set_eq_of_length_le (by simp; omega)]
      simp [show o < cs.length by omega]
    have e2 : (cs.set o v).drop (o + 1 + r.length) = cs.drop (o + (r.length + 1)) := by
      rw [List.drop_set_of_lt (by omega)]
      congr 1
      omega
    rw [e1, e2]
    simp only [List.length_cons, List.append_assoc, List.cons_append, List.nil_append]
end Go.Proofs.YtbihifipemldhabDoor.Mc
/-
  What ferrybridgeref5.Wrong answers, of every machine and script.
-/
namespace Go.Proofs.YtbihifipemldhabDoor.Mc
open Go.ChangeShapes Go.WideShapes Go.ChangeAt Go.RowKit Mm Hh

end Go.Proofs.YtbihifipemldhabDoor.Mc
/-
  Two harts that are the same compare as equal.
-/
namespace Go.Proofs.YtbihifipemldhabDoor.Hc
open Go.ChangeShapes Go.WideShapes Go.ChangeAt Go.RowKit Mm Hh

theorem list32 {l : List Int} (h : l.length = 32) : ∃ a0 a1 a2 a3 a4 a5 a6 a7 a8 a9 b0 b1 b2 b3 b4 b5 b6 b7 b8 b9 c0 c1 c2 c3 c4 c5 c6 c7 c8 c9 d0 d1, l = [a0, a1, a2, a3, a4, a5, a6, a7, a8, a9, b0, b1, b2, b3, b4, b5, b6, b7, b8, b9, c0, c1, c2, c3, c4, c5, c6, c7, c8, c9, d0, d1] := by
  match l, h with
  | [a0, a1, a2, a3, a4, a5, a6, a7, a8, a9, b0, b1, b2, b3, b4, b5, b6, b7, b8, b9, c0, c1, c2, c3, c4, c5, c6, c7, c8, c9, d0, d1], _ => exact ⟨_, _, _, _, _, _, _, _, _, _, _, _, _, _, _, _, _, _, _, _, _, _, _, _, _, _, _, _, _, _, _, _, rfl⟩
theorem eq_items (d : Nat) (w : World) (xs : Array Value) : ∀ is : List Nat, (∀ i ∈ is, ∃ a, xs[i * 1]? = some (.int .u32 a)) → (Op.eqItems (d + 1) 38 1 xs xs is).run Tryd.prog w = .ok true w
  | [], _ => by simp [Op.eqItems]
  | i :: is, h => by
    obtain ⟨a, ha⟩ := h i (by simp)
    have hp : Tryd.prog.plainKey 38 = true := by kernel_rfl
    have ih := eq_items d w xs is (fun j hj => h j (by simp [hj]))
    simp only [Op.eqItems, Sem.run_bind, run_part_plain w hp ha, Result.andThen_ok, run_equalIn_int w d 38 .u32 .u32 a a Tryd.underlying38, beq_self_eq_true, Bool.not_true, Bool.false_eq_true, if_false]
    exact ih
theorem eq_row (w : World) (xs : Array Value) (h : ∀ i, i < 32 → ∃ a, xs[i]? = some (.int .u32 a)) : (Op.equalIn 9999 46 (.agg xs) (.agg xs)).run Tryd.prog w = .ok true w := by
  obtain ⟨i0, hi, _, _, _⟩ := info_parts (by kernel_rfl : (Tryd.prog.info? 38).map (fun i => (i.zero, i.size, i.bytes)) = some (some (Value.int .u32 0), 1, 4))
  rw [run_equalIn_array w 9998 xs xs Tryd.underlying46 hi]
  rw [show Tryd.prog.cellsOf 38 = 1 by kernel_rfl]
  exact eq_items 9997 w xs _ (fun i hm => by rw [Nat.mul_one]; exact h i (List.mem_range.1 hm))
theorem eql_hart {h : Hv} (o : h.Ok) (w : World) : (binOp .eql 48 (.agg (hA h)) (.agg (hA h))).run Tryd.prog w = .ok (.bool true) w := by
  obtain ⟨a0, a1, a2, a3, a4, a5, a6, a7, a8, a9, b0, b1, b2, b3, b4, b5, b6, b7, b8, b9, c0, c1, c2, c3, c4, c5, c6, c7, c8, c9, d0, d1, e⟩ := list32 o.len
  obtain ⟨rs, pc, held, hat, st, cs⟩ := h
  subst e
  show (binOp .eql 48 (.agg #[.int .u32 a0, .int .u32 a1, .int .u32 a2, .int .u32 a3, .int .u32 a4, .int .u32 a5, .int .u32 a6, .int .u32 a7, .int .u32 a8, .int .u32 a9, .int .u32 b0, .int .u32 b1, .int .u32 b2, .int .u32 b3, .int .u32 b4, .int .u32 b5, .int .u32 b6, .int .u32 b7, .int .u32 b8, .int .u32 b9, .int .u32 c0, .int .u32 c1, .int .u32 c2, .int .u32 c3, .int .u32 c4, .int .u32 c5, .int .u32 c6, .int .u32 c7, .int .u32 c8, .int .u32 c9, .int .u32 d0, .int .u32 d1, .int .u32 pc, .bool held, .int .u32 hat, .int .i64 st, .int .i64 cs]) (.agg #[.int .u32 a0, .int .u32 a1, .int .u32 a2, .int .u32 a3, .int .u32 a4, .int .u32 a5, .int .u32 a6, .int .u32 a7, .int .u32 a8, .int .u32 a9, .int .u32 b0, .int .u32 b1, .int .u32 b2, .int .u32 b3, .int .u32 b4, .int .u32 b5, .int .u32 b6, .int .u32 b7, .int .u32 b8, .int .u32 b9, .int .u32 c0, .int .u32 c1, .int .u32 c2, .int .u32 c3, .int .u32 c4, .int .u32 c5, .int .u32 c6, .int .u32 c7, .int .u32 c8, .int .u32 c9, .int .u32 d0, .int .u32 d1, .int .u32 pc, .bool held, .int .u32 hat, .int .i64 st, .int .i64 cs])).run Tryd.prog w = .ok (.bool true) w
  have hr := eq_row w #[.int .u32 a0, .int .u32 a1, .int .u32 a2, .int .u32 a3, .int .u32 a4, .int .u32 a5, .int .u32 a6, .int .u32 a7, .int .u32 a8, .int .u32 a9, .int .u32 b0, .int .u32 b1, .int .u32 b2, .int .u32 b3, .int .u32 b4, .int .u32 b5, .int .u32 b6, .int .u32 b7, .int .u32 b8, .int .u32 b9, .int .u32 c0, .int .u32 c1, .int .u32 c2, .int .u32 c3, .int .u32 c4, .int .u32 c5, .int .u32 c6, .int .u32 c7, .int .u32 c8, .int .u32 c9, .int .u32 d0, .int .u32 d1] (fun i hi => by
    match i, hi with
    | 0, _ => exact ⟨_, rfl⟩
    | 1, _ => exact ⟨_, rfl⟩
    | 2, _ => exact ⟨_, rfl⟩
    | 3, _ => exact ⟨_, rfl⟩
    | 4, _ => exact ⟨_, rfl⟩
    | 5, _ => exact ⟨_, rfl⟩
    | 6, _ => exact ⟨_, rfl⟩
    | 7, _ => exact ⟨_, rfl⟩
    | 8, _ => exact ⟨_, rfl⟩
    | 9, _ => exact ⟨_, rfl⟩
    | 10, _ => exact ⟨_, rfl⟩
    | 11, _ => exact ⟨_, rfl⟩
    | 12, _ => exact ⟨_, rfl⟩
    | 13, _ => exact ⟨_, rfl⟩
    | 14, _ => exact ⟨_, rfl⟩
    | 15, _ => exact ⟨_, rfl⟩
    | 16, _ => exact ⟨_, rfl⟩
    | 17, _ => exact ⟨_, rfl⟩
    | 18, _ => exact ⟨_, rfl⟩
    | 19, _ => exact ⟨_, rfl⟩
    | 20, _ => exact ⟨_, rfl⟩
    | 21, _ => exact ⟨_, rfl⟩
    | 22, _ => exact ⟨_, rfl⟩
    | 23, _ => exact ⟨_, rfl⟩
    | 24, _ => exact ⟨_, rfl⟩
    | 25, _ => exact ⟨_, rfl⟩
    | 26, _ => exact ⟨_, rfl⟩
    | 27, _ => exact ⟨_, rfl⟩
    | 28, _ => exact ⟨_, rfl⟩
    | 29, _ => exact ⟨_, rfl⟩
    | 30, _ => exact ⟨_, rfl⟩
    | 31, _ => exact ⟨_, rfl⟩
    | n + 32, h => omega)
  go_simp
end Go.Proofs.YtbihifipemldhabDoor.Hc
/-
  Words as slices; what ferrybridgeref4.Words answers of two that are the same; loads of whole structs behind a guard.
-/
namespace Go.Proofs.YtbihifipemldhabDoor.Hc
open Go.ChangeShapes Go.WideShapes Go.ChangeAt Go.RowKit Mm Hh

/-- In world w, the slice at ao of n elements reads as the words os. -/
structure Wm (w : World) (ao : Option Addr) (n : Nat) (os : List Int) : Prop where
  len : os.length = n
  nil : ao = none → n = 0
  cell : ∀ ad, ao = some ad → ∀ t, t < n → w.cell? (ad.add t) = some (.int .u32 (os.getD t 0))
theorem Wm.of {w w' : World} {ao : Option Addr} {n : Nat} {os : List Int} (h : Wm w ao n os) (g : Gr w w') : Wm w' ao n os :=
  ⟨h.len, h.nil, fun ad e t ht => (g.cell _ (World.block_lt_of_cell? w _ (h.cell ad e t ht))).trans (h.cell ad e t ht)⟩
theorem Wm.spot {w : World} {ao : Option Addr} {n : Nat} {os : List Int} (h : Wm w ao n os) (hn : 0 < n) :
    ∃ b o, ao = some ⟨b, o, none⟩ ∧ b < w.heap.size ∧ ∀ t, t < n → w.cell? ⟨b, o + t, none⟩ = some (.int .u32 (os.getD t 0)) := by
  cases ao with
  | none => exact absurd (h.nil rfl) (by omega)
  | some ad =>
    obtain ⟨b, o, s⟩ := ad
    have hs : s = none := by simpa [Addr.add] using World.cell?_spot (h.cell _ rfl 0 hn)
    subst hs
    have hb : b < w.heap.size := by simpa [Addr.add] using World.block_lt_of_cell? w _ (h.cell _ rfl 0 hn)
    exact ⟨b, o, rfl, hb, fun t ht => by rw [← add_at]; exact h.cell _ rfl t ht⟩
theorem wm_own {w : World} {base n : Nat} {v : Value} {os : List Int} (hl : os.length = n) (h : w.ownsRow base 38 1 v n (os.map (Value.int .u32))) : ∃ ao cap, v = .slice ao n cap ∧ Wm w ao n os := by
  obtain ⟨_, h⟩ := h
  rcases h with ⟨rfl, h0⟩ | ⟨g, cap, cur, rfl, hb, hg, hn, hm, hs, ht⟩
  · subst h0
    exact ⟨none, 0, rfl, hl, fun _ => rfl, fun ad e => (by cases e)⟩
  · refine ⟨_, cap, rfl, hl, fun e => (by cases e), fun ad e t htn => ?_⟩
    obtain rfl := Option.some.inj e
    rw [add_at, Nat.zero_add, cell_of_row _ _ _ _ _ _ hg]
    have h1 : (cur.toList.take (n * 1))[t]? = some (.int .u32 (os.getD t 0)) := by
      rw [ht, List.getElem?_map]
      simp [List.getD, List.getElem?_eq_getElem (show t < os.length by omega)]
    rw [List.getElem?_take_of_lt (by omega)] at h1
    simpa using h1

theorem Words_zero (a b : Option Addr) (c d : Nat) (w : World) : Calls Tryd.prog 26 #[.slice a 0 c, .slice b 0 d] w fun e w' => e = .returned (.bool true) ∧ Gr w w' := by
  go_enter Tryd.func26, Tryd.ntmps26
  go_wp2
  go_loopw [5] (fun i wr => i = .int .i64 0 ∧ wr = w) (fun _ _ => 0)
  case atStart => exact ⟨rfl, rfl⟩
  case round =>
    obtain ⟨rfl, rfl⟩ := hrel
    go_wp2
    go_ret
    exact ⟨rfl, Gr.refl _⟩
theorem Words_pos {w : World} {b1 o1 b2 o2 n : Nat} {os : List Int} (c d : Nat) (hn : n ≤ 1000000) (h1 : ∀ t, t < n → w.cell? ⟨b1, o1 + t, none⟩ = some (.int .u32 (os.getD t 0))) (h2 : ∀ t, t < n → w.cell? ⟨b2, o2 + t, none⟩ = some (.int .u32 (os.getD t 0))) :
    Calls Tryd.prog 26 #[.slice (some ⟨b1, o1, none⟩) n c, .slice (some ⟨b2, o2, none⟩) n d] w fun e w' => e = .returned (.bool true) ∧ Gr w w' := by
  have H1 : Hid (∀ t, t < n → w.cell? ⟨b1, o1 + t, none⟩ = some (.int .u32 (os.getD t 0))) := h1
  have H2 : Hid (∀ t, t < n → w.cell? ⟨b2, o2 + t, none⟩ = some (.int .u32 (os.getD t 0))) := h2
  clear h1 h2
  go_enter Tryd.func26, Tryd.ntmps26
  go_wp2
  go_loopw [5] (fun i wr => ∃ k : Nat, k ≤ n ∧ i = .int .i64 k ∧ ∃ m, wr = w.drewN m) (fun i _ => n - (intOf i).toNat)
  case atStart => exact ⟨0, Nat.zero_le _, rfl, 0, rfl⟩
  case round =>
    obtain ⟨k, hk, rfl, m, rfl⟩ := hrel
    by_cases hlt : k < n
    · have q1 := H1.out k hlt
      have q2 := H2.out k hlt
      generalize os.getD k 0 = y at *
      go_wp2_with fail
      go_quiet (fail)
      go_wp2_with fail
      go_roundw
      case rel => exact ⟨k + 1, by omega, by go_num, _, rfl⟩
      case measure => simp [intOf]; omega
    · go_wp2
      go_ret
      exact ⟨rfl, (Gr.refl _).drewN _⟩
/-- Words, of two that are the same. -/
theorem Words_same {w : World} {a b : Option Addr} {n : Nat} {os : List Int} (c d : Nat) (hn : n ≤ 1000000) (A : Wm w a n os) (B : Wm w b n os) : Calls Tryd.prog 26 #[.slice a n c, .slice b n d] w fun e w' => e = .returned (.bool true) ∧ Gr w w' := by
  by_cases h0 : n = 0
  · subst h0; exact Words_zero a b c d w
  · obtain ⟨b1, o1, rfl, _, h1⟩ := A.spot (by omega)
    obtain ⟨b2, o2, rfl, _, h2⟩ := B.spot (by omega)
    exact Words_pos c d hn h1 h2

/-! Behind a guard that holds -/
section
variable {P : Program} {ops : Array Oper} {rest : List Oper} {op : Oper} {a : Act} {w : World} {Q : Exit → Act → World → Prop}
end
end Go.Proofs.YtbihifipemldhabDoor.Hc
/-
  What package machine's meets, May and wrong answer, of every machine and script.
-/
namespace Go.Proofs.YtbihifipemldhabDoor.Mc
open Go.ChangeShapes Go.WideShapes Go.ChangeAt Go.RowKit Mm Hh Hc

end Go.Proofs.YtbihifipemldhabDoor.Mc
/-
  What the small functions of package ferrybridgeref4 return: trap, set, each of every struct that a step did; and nothing old in memory turns.
-/
namespace Go.Proofs.YtbihifipemldhabDoor.Hr
open Go.ChangeShapes Go.WideShapes Go.ChangeAt Go.RowKit Mm Hh

theorem iD : (Tryd.prog.info? 105).map (·.size) = some 41 := by kernel_rfl
theorem iH : (Tryd.prog.info? 48).map (·.size) = some 37 := by kernel_rfl
theorem ret_int {k : IntKind} {a b : Int} (h : a = b) : Ending.returned (.int k a) = .returned (.int k b) := by rw [h]

theorem sum_any (a b : Int) (w : World) (ha : 0 ≤ a) (ha' : a < 4294967296) (hb : 0 ≤ b) (hb' : b < 4294967296) :
    Calls Tryd.prog 74 #[.int .u32 a, .int .u32 b] w fun e w' => e = .returned (.int .u32 (Wd.lo (a + b))) ∧ w' = w := by
  go_enter Tryd.func74, Tryd.ntmps74
  go_wp2_with (go_at_call 66; refine (Rw.alu_28 _ _ _ ha ha' hb hb').mono ?_; rintro e w' ⟨rfl, rfl⟩)
  go_ret
  exact ⟨ret_int rfl, rfl⟩
theorem operation_any (op : Int) (w : World) : Calls Tryd.prog 77 #[.int .i64 op] w fun e w' => e = .returned (.int .i64 (opn op)) ∧ w' = w := by
  go_enter Tryd.func77, Tryd.ntmps77
  go_wp2
  all_goals
    go_ret
    refine ⟨ret_int ?_, rfl⟩
    simp only [beq_iff_eq, beq_eq_false_iff_ne, ne_eq] at *
    unfold opn
    repeat' split
    all_goals omega

theorem trap_any {d : Dv} (o : d.Ok) (c : Int) (w : World) :
    Calls Tryd.prog 73 #[.agg (dA d), .int .i64 c] w fun e w' => e = .returned (.agg (dA (d.setH (d.h.trap c)))) ∧ Gr w w' := by
  have o1 : Hv.Ok { d.h with state := 2 } := ⟨o.h.len, o.h.reg, o.h.pc0, o.h.pc1, o.h.at0, o.h.at1⟩
  have e1 : (dA d).setIfInBounds 35 (.int .i64 2) = dA { d with h := { d.h with state := 2 } } := dA_set o.h (by omega) (set_state o.h 2)
  have e2 : (dA { d with h := { d.h with state := 2 } }).setIfInBounds 36 (.int .i64 c) = dA (d.setH (d.h.trap c)) := dA_set (d := { d with h := { d.h with state := 2 } }) o1 (by omega) (set_cause o1 c)
  have hs := dA_size o.h
  have s1 : (dA { d with h := { d.h with state := 2 } }).size = 41 := dA_size (d := { d with h := { d.h with state := 2 } }) o1
  have S2 : Hid ((dA (d.setH (d.h.trap c))).size = 41) := dA_size (d := d.setH (d.h.trap c)) (o.h.trap c)
  have H1 : Hid ((dA (d.setH (d.h.trap c))).all (·.oneCell') = true) := one_dA (o.setH (o.h.trap c))
  generalize dA { d with h := { d.h with state := 2 } } = D1 at *
  generalize dA (d.setH (d.h.trap c)) = D2 at *
  generalize dA d = D0 at *
  clear o1 o
  go_enter Tryd.func73, Tryd.ntmps73
  go_wp2_with (first
    | (refine wpList_load_row rfl 105 _ rfl _ rfl _ _ _ _ (heap_alloc2_old w _ _) Tryd.underlying105 rfl (by rw [S2.out]; exact iD) ?_)
    | (refine wpList_store_row rfl 105 _ _ rfl _ _ rfl rfl _ _ (heap_alloc2_new w _ _) (by rw [S2.out]; exact iD) (by rw [S2.out]; rfl) H1.out ?_))
  refine bodyPost_ret (v := .agg D2) (results_cell_row rfl _ _ _ _ _ (0, 0) _ rfl (heap_setRow2 w _ _ _ _) Tryd.underlying105 rfl (by rw [S2.out]; exact iD)) rfl ⟨rfl, ?_⟩
  exact gr_setRow (((Gr.refl _).alloc _).alloc _) (Nat.le_succ _) _

theorem set_any {d : Dv} (o : d.Ok) (r x : Int) (w : World) (h0 : 0 ≤ r) (h1 : r < 32) (hx0 : 0 ≤ x) (hx1 : x < 4294967296) :
    Calls Tryd.prog 75 #[.agg (dA d), .int .i64 r, .int .u32 x] w fun e w' => e = .returned (.agg (dA (d.setH (d.h.set r.toNat x)))) ∧ Gr w w' := by
  have hs := dA_size o.h
  have S2 : Hid ((dA (d.setH (d.h.set r.toNat x))).size = 41) := dA_size (d := d.setH (d.h.set r.toNat x)) (o.h.set _ hx0 hx1)
  have H1 : Hid ((dA (d.setH (d.h.set r.toNat x))).all (·.oneCell') = true) := one_dA (o.setH (o.h.set _ hx0 hx1))
  obtain ⟨r, rfl⟩ := Int.eq_ofNat_of_zero_le h0
  simp only [Int.toNat_natCast] at *
  by_cases hr : r = 0
  · subst hr
    have e : d.setH (d.h.set 0 x) = d := rfl
    rw [e] at S2 H1 ⊢
    generalize dA d = D2 at *
    clear o e
    go_enter Tryd.func75, Tryd.ntmps75
    go_wp2_with (first
      | (refine wpList_load_row rfl 105 _ rfl _ rfl _ _ _ _ (heap_alloc2_old w _ _) Tryd.underlying105 rfl (by rw [S2.out]; exact iD) ?_)
      | (refine wpList_store_row rfl 105 _ _ rfl _ _ rfl rfl _ _ (heap_alloc2_new w _ _) (by rw [S2.out]; exact iD) (by rw [S2.out]; rfl) H1.out ?_))
    refine bodyPost_ret (v := .agg D2) (results_cell_row rfl _ _ _ _ _ (0, 0) _ rfl (heap_setRow2 w _ _ _ _) Tryd.underlying105 rfl (by rw [S2.out]; exact iD)) rfl ⟨rfl, ?_⟩
    exact gr_setRow (((Gr.refl _).alloc _).alloc _) (Nat.le_succ _) _
  · have e1 : (dA d).setIfInBounds r (.int .u32 x) = dA (d.setH (d.h.set r x)) := by
      have : d.h.set r x = { d.h with regs := d.h.regs.set r x } := if_neg hr
      rw [this]
      exact dA_set o.h (by omega) (set_reg o.h (by omega) x)
    have hr' : ¬ (r : Int) = 0 := by omega
    have hr2 : r < 32 := by omega
    have hget : (dA d)[r]? = some (.int .u32 (rg d.h r)) := by rw [dA_get o.h (by omega)]; exact hL_reg o.h hr2
    generalize rg d.h r = y at *
    generalize dA (d.setH (d.h.set r x)) = D2 at *
    generalize dA d = D0 at *
    clear o
    clear hs
    go_enter Tryd.func75, Tryd.ntmps75
    go_wp2_with (first
      | (refine wpList_load_row rfl 105 _ rfl _ rfl _ _ _ _ (heap_alloc2_old w _ _) Tryd.underlying105 rfl (by rw [S2.out]; exact iD) ?_)
      | (refine wpList_store_row rfl 105 _ _ rfl _ _ rfl rfl _ _ (heap_alloc2_new w _ _) (by rw [S2.out]; exact iD) (by rw [S2.out]; rfl) H1.out ?_))
    refine bodyPost_ret (v := .agg D2) (results_cell_row rfl _ _ _ _ _ (0, 0) _ rfl (heap_setRow2 w _ _ _ _) Tryd.underlying105 rfl (by rw [S2.out]; exact iD)) rfl ⟨rfl, ?_⟩
    exact gr_setRow (((Gr.refl _).alloc _).alloc _) (Nat.le_succ _) _
end Go.Proofs.YtbihifipemldhabDoor.Hr
