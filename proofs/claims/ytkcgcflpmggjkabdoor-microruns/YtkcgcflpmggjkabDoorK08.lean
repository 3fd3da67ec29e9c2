/-
  Rm7, Rm8: texts of ours that lie in one file.
-/
import Derived.Test.YtkcgcflpmggjkabDoorK07
import Derived.Test.YtkcgcflpmggjkabDoorK04
import Derived.Test.YtkcgcflpmggjkabDoorK03
import Derived.Test.YtkcgcflpmggjkabDoorHk
import Derived.Test.YtkcgcflpmggjkabDoorHw
import Derived.Test.YtkcgcflpmggjkabDoorRef3Walks
/-
  What the document's Play answers of small steps that may be: what they do ('mplay').
-/
namespace Go.Proofs.YtkcgcflpmggjkabDoor.Mi
open Go.ChangeShapes Go.WideShapes Go.ChangeAt Go.RowKit Mm Hh Hc
set_option linter.unusedVariables false
set_option linter.unusedSimpArgs false

/-- What small steps did (api.Did), as cells. -/
def gL (h : Hv) (M O : Value) (n : Int) (S : Value) : List Value := hL h ++ [M, O, .int .i64 n, S]
def gA (h : Hv) (M O : Value) (n : Int) (S : Value) : Array Value := (gL h M O n S).toArray
theorem gL_len {h : Hv} (o : h.Ok) (M O : Value) (n : Int) (S : Value) : (gL h M O n S).length = 41 := by simp [gL, hL_len o]
theorem gA_size {h : Hv} (o : h.Ok) (M O : Value) (n : Int) (S : Value) : (gA h M O n S).size = 41 := by simp [gA, gL_len o]
theorem zDidA : (Tryd.prog.info? 54).bind (·.zero) = some (.agg (gA h0 nilS nilS 0 nilS)) := by kernel_rfl
theorem zRun : (Tryd.prog.info? 95).bind (·.zero) = some (.agg (uA (mstart h0 []) nilS nilS nilS 0 0)) := by kernel_rfl
theorem iDidA : (Tryd.prog.info? 54).map (·.size) = some 41 := by kernel_rfl
theorem iRun : (Tryd.prog.info? 95).map (·.size) = some 50 := by kernel_rfl
theorem iHa : (Tryd.prog.info? 48).map (·.size) = some 37 := by kernel_rfl
theorem built_didA {h : Hv} (o : h.Ok) (v : Value) (hv : v.cells = #[v]) : Tryd.prog.built 54 [(0, .agg (hA h)), (1, v)] = some (gA h v nilS 0 nilS) := by
  obtain ⟨it, hi, hz⟩ := info_zero zDidA
  have hsz : (gA h0 nilS nilS 0 nilS).size = 41 := gA_size h0_ok _ _ _ _
  have hsz2 := gA_size o v nilS 0 nilS
  have hl := hL_len o
  have hl0 := hL_len h0_ok
  refine built_two (n := 37) hi Tryd.underlying54 hz (ps := [(0, 37), (37, 1), (38, 1), (39, 1), (40, 1)]) (by kernel_rfl) rfl rfl (hA h) (hA_size o) v hv (by show 38 ≤ (gA _ _ _ _ _).size; rw [hsz]; omega) _ ?_ ?_ ?_ ?_
  · show _ = (gA _ _ _ _ _).size; rw [hsz, hsz2]
  · intro k hk
    unfold gA gL hA
    rw [List.getElem?_toArray, List.getElem?_toArray, List.getElem?_append_left (by omega)]
  · unfold gA gL
    rw [List.getElem?_toArray, List.getElem?_append_right (by omega), hl]
    rfl
  · intro k hk
    show _ = (gA _ _ _ _ _)[k]?
    unfold gA gL
    rw [List.getElem?_toArray, List.getElem?_toArray, List.getElem?_append_right (by omega), List.getElem?_append_right (by omega), hl, hl0]
    obtain ⟨j, hj⟩ : ∃ j, k - 37 = j + 1 := ⟨k - 38, by omega⟩
    rw [hj]
    rfl
/-- A struct of which the first, the third and the sixth field are said. -/
theorem built_run {P : Program} {t : TypeId} {it : TypeInfo} {z : Value} {fs : Array Field} {ps : List (Nat × Nat)} (hi : P.info? t = some it) (hu : P.underlying t = some (.struct fs)) (hz : it.zero = some z)
    (hp : fs.toList.mapM (fun f => (P.info? f.type).map fun i => (f.offset, i.size)) = some ps) {n p q m : Nat} (p0 : ps.toArray[0]? = some (0, n)) (p1 : ps.toArray[2]? = some (p, 1)) (p2 : ps.toArray[5]? = some (q, m)) (A : Array Value) (hA : A.size = n) (v : Value) (hv : v.cells = #[v]) (B : Array Value) (hB : B.size = m)
    (hn : n ≤ p) (hq : p < q) (hs : q + m ≤ z.cells.size)
    (R : Array Value) (h1 : ∀ k, k < n → R[k]? = A[k]?) (h2 : R[p]? = some v) (h4 : ∀ k, q ≤ k → k < q + m → R[k]? = B[k - q]?) (h3 : ∀ k, n ≤ k → k ≠ p → (k < q ∨ q + m ≤ k) → R[k]? = z.cells[k]?) : P.built t [(0, .agg A), (2, v), (5, .agg B)] = some R := by
  unfold Program.built
  simp only [hi, hu, hz, hp]
  have a1 := fold_set 0 A z.cells
  have a2 := fold_set p #[v] (A.zipIdx.foldl (fun cs (x : Value × Nat) => cs.setIfInBounds (0 + x.2) x.1) z.cells)
  have a3 := fold_set q B ((#[v] : Array Value).zipIdx.foldl (fun cs (x : Value × Nat) => cs.setIfInBounds (p + x.2) x.1) (A.zipIdx.foldl (fun cs (x : Value × Nat) => cs.setIfInBounds (0 + x.2) x.1) z.cells))
  unfold Instr.fill
  simp only [p0]
  have e : ∀ A : Array Value, (Value.agg A).cells = A := fun _ => rfl
  rw [e, if_neg (by simp [hA]; omega)]
  unfold Instr.fill
  simp only [p1]
  rw [hv, if_neg (by rw [a1.1]; simp; omega)]
  unfold Instr.fill
  simp only [p2]
  rw [e, if_neg (by rw [a2.1, a1.1]; simp [hB]; omega)]
  unfold Instr.fill
  congr 1
  apply Array.ext_getElem?
  intro k
  rw [a3.2 k, a2.2 k, a1.2 k, a2.1, a1.1]
  by_cases hk : k < n
  · rw [if_neg (by omega), if_neg (by simp; omega), if_pos (by omega), h1 k hk]; simp
  · by_cases hk2 : k = p
    · subst hk2
      rw [if_neg (by omega), if_pos (by simp; omega), h2]; simp
    · by_cases hk3 : q ≤ k ∧ k < q + m
      · rw [if_pos (by omega), h4 k hk3.1 hk3.2]
      · rw [if_neg (by omega), if_neg (by simp; omega), if_neg (by omega), h3 k (by omega) hk2 (by omega)]
theorem built_start {h : Hv} (o : h.Ok) (l : List UInt8) (v : Value) (bf bt : Int) : Tryd.prog.built 95 [(0, .agg (gA h v nilS 0 nilS)), (2, .int .u32 h.pc), (5, .agg #[.int .u32 bf, .int .u32 bt])] = some (uA (mstart h l) v nilS nilS bf bt) := by
  obtain ⟨it, hi, hz⟩ := info_zero zRun
  have ok0 : (mstart h0 []).Ok := ⟨h0_ok, rfl, fun j => by unfold mstart; simp only; match j with
    | 0 => decide
    | 1 => decide
    | 2 => decide
    | 3 => decide
    | j + 4 => simp, by decide, by decide⟩
  have hsz : (uA (mstart h0 []) nilS nilS nilS 0 0).size = 50 := uA_size ok0 _ _ _ _ _
  have hl := hL_len o
  have hl0 := hL_len h0_ok
  refine built_run (n := 41) (p := 45) (q := 48) (m := 2) hi Tryd.underlying95 hz (ps := [(0, 41), (41, 4), (45, 1), (46, 1), (47, 1), (48, 2)]) (by kernel_rfl) rfl rfl rfl (gA h v nilS 0 nilS) (gA_size o _ _ _ _) _ rfl _ rfl (by omega) (by omega) (by show 50 ≤ (uA _ _ _ _ _ _).size; rw [hsz]; omega) _ ?_ ?_ ?_ ?_
  · intro k hk
    unfold uA gA gL
    rw [List.getElem?_toArray, List.getElem?_toArray]
    by_cases h37 : k < 37
    · rw [List.getElem?_append_left (by show k < (hL h).length; omega), List.getElem?_append_left (by show k < (hL h).length; omega)]
      rfl
    · rw [List.getElem?_append_right (by show (hL h).length ≤ k; omega), List.getElem?_append_right (by show (hL h).length ≤ k; omega), show (hL (mstart h l).h).length = 37 from hl, hl]
      obtain ⟨j, hj⟩ : ∃ j, k - 37 = j := ⟨_, rfl⟩
      rw [hj]
      have : j = 0 ∨ j = 1 ∨ j = 2 ∨ j = 3 := by omega
      rcases this with rfl | rfl | rfl | rfl <;> rfl
  · unfold uA
    rw [List.getElem?_toArray, List.getElem?_append_right (by show (hL h).length ≤ 45; omega), show (hL (mstart h l).h).length = 37 from hl]
    rfl
  · intro k h1 h2
    unfold uA
    rw [List.getElem?_toArray, List.getElem?_append_right (by show (hL h).length ≤ k; omega), show (hL (mstart h l).h).length = 37 from hl]
    have : k = 48 ∨ k = 49 := by omega
    rcases this with rfl | rfl <;> rfl
  · intro k h1 h2 h3
    show _ = (uA _ _ _ _ _ _)[k]?
    unfold uA
    rw [List.getElem?_toArray, List.getElem?_toArray, List.getElem?_append_right (by show (hL h).length ≤ k; omega), List.getElem?_append_right (by show (hL h0).length ≤ k; omega), show (hL (mstart h l).h).length = 37 from hl, show (hL (mstart h0 []).h).length = 37 from hl0]
    obtain ⟨j, hj⟩ : ∃ j, k = 41 + j := ⟨k - 41, by omega⟩
    subst hj
    by_cases h9 : j < 9
    · have : j = 0 ∨ j = 1 ∨ j = 2 ∨ j = 3 ∨ j = 5 ∨ j = 6 := by omega
      rcases this with rfl | rfl | rfl | rfl | rfl | rfl <;> rfl
    · rw [List.getElem?_eq_none (by rw [show (uT (mstart h l) v nilS nilS bf bt).length = 13 from rfl]; omega), List.getElem?_eq_none (by rw [show (uT (mstart h0 []) nilS nilS nilS 0 0).length = 13 from rfl]; omega)]
theorem start_ok {h : Hv} (o : h.Ok) (l : List UInt8) : (mstart h l).Ok :=
  ⟨o, rfl, fun j => by unfold mstart; simp only; match j with
    | 0 => decide
    | 1 => decide
    | 2 => decide
    | 3 => decide
    | j + 4 => simp, o.pc0, o.pc1⟩
theorem atW {p : World → Prop} {x : World} (F : World → Prop) (hF : F x) (h : ∀ y, F y → p y) : p x := h x hF
/-- In world w, a Did of the cells M, O, S reads as the run r. -/
structure Dr (w : World) (r : Rn) (M O S : Value) : Prop where
  ok : r.Ok
  mem : ∃ ao c, M = .slice ao r.m.length c ∧ Mem w ao r.m.length r.m
  out : ∃ b, w.ownsRow b 38 1 O r.out.length (r.out.map (Value.int .u32))
  sto : ∃ b, w.ownsRow b 50 2 S r.sto.length (rgs r.sto)
theorem RV.did {w : World} {base g : Nat} {r : Rn} {bf bt : Int} {M O S : Value} (V : RV w base g r bf bt M O S) : w.rangeAt g 0 (gL r.h M O r.n S) := by
  intro j v hv
  rw [Nat.zero_add, V.cell j]
  have hl := hL_len V.ok.h
  unfold gL at hv
  unfold uA
  rw [List.getElem?_toArray]
  by_cases h37 : j < 37
  · rw [List.getElem?_append_left (by omega)] at hv ⊢
    exact hv
  · rw [List.getElem?_append_right (by omega), hl] at hv ⊢
    obtain ⟨k, hk⟩ : ∃ k, j - 37 = k := ⟨_, rfl⟩
    rw [hk] at hv ⊢
    match k, hv with
    | 0, hv => exact hv
    | 1, hv => exact hv
    | 2, hv => exact hv
    | 3, hv => exact hv
    | k + 4, hv => simp at hv
theorem slice_one {a : Option Addr} {n c : Nat} : (Value.slice a n c).oneCell' = true := rfl
theorem gA_one {h : Hv} {M O S : Value} {n : Int} (h1 : M.oneCell' = true) (h2 : O.oneCell' = true) (h3 : S.oneCell' = true) : (gA h M O n S).all (·.oneCell') = true := by
  refine all_oneCell_toArray ?_
  intro v hv
  simp only [gL, hL, List.mem_append, List.mem_map, List.mem_cons, List.not_mem_nil, or_false] at hv
  rcases hv with (⟨n, _, rfl⟩ | rfl | rfl | rfl | rfl | rfl) | rfl | rfl | rfl | rfl <;> first | rfl | assumption
theorem RV.ones {w : World} {base g : Nat} {r : Rn} {bf bt : Int} {M O S : Value} (V : RV w base g r bf bt M O S) : (gL r.h M O r.n S).toArray.all (·.oneCell') = true := by
  obtain ⟨ao, c, e1⟩ := V.mem.form
  obtain ⟨a2, c2, e2⟩ := owns_word V.out
  obtain ⟨a3, c3, e3⟩ := owns_word V.sto
  exact gA_one (by rw [e1]; rfl) (by rw [e2]; rfl) (by rw [e3]; rfl)
/-- Behind the store of the result, at block k. -/
theorem RV.dr {w : World} {base g : Nat} {r : Rn} {bf bt : Int} {M O S : Value} (V : RV w base g r bf bt M O S) {k : Nat} (hk : base ≤ k) {Z : Array Value} (hb : w.heap[k]? = some (.cells Z 54 (0, 0))) (cs : Array Value) : Dr (w.setRow k cs) r M O S := by
  have ne : ∀ {t : Nat}, t ≠ 54 → ∀ {j : Nat} {o : Array Value} {f : Nat × Nat}, w.heap[j]? = some (.cells o t f) → (w.setRow k cs).heap[j]? = w.heap[j]? := fun ht _ _ _ hj => setRow_other _ _ _ _ (ne_of_types hj hb ht)
  obtain ⟨ao, c, e, m, far⟩ := V.mem.keep (w' := w.setRow k cs) (fun j hj => setRow_other _ _ _ _ (by omega)) (fun j o f hj => ne (by decide) hj)
  exact ⟨V.ok, ⟨ao, c, e, m⟩, ⟨base, owns_to V.out fun j o f hj => ne (by decide) hj⟩, ⟨base, owns_to V.sto fun j o f hj => ne (by decide) hj⟩⟩
theorem Fu.gr {w a b : World} (h : Fu w.heap.size a b) (G : Gr w a) : Gr w b := Below.trans G h.below
set_option maxHeartbeats 4000000 in
set_option maxRecDepth 100000 in
theorem Play_any {w : World} {ao : Option Addr} {n : Nat} (cap : Nat) {code : List Mv} (C : Cs w ao n code) (hmay : mayC code = true) {h : Hv} (oh : h.Ok) {mo : Option Addr} {ml : Nat} (mc : Nat) {l : List UInt8} (Mm : Mem w mo ml l) (hl : ml ≤ 4096) (bf bt steps : Int) :
    Calls Tryd.prog 16 #[.slice ao n cap, .agg (hA h), .slice mo ml mc, .agg #[.int .u32 bf, .int .u32 bt], .int .i64 steps] w fun e w' => ∃ M O S, e = .returned (.agg (gA (mplay bf bt steps h l code).h M O (mplay bf bt steps h l code).n S)) ∧ Dr w' (mplay bf bt steps h l code) M O S ∧ Gr w w' := by
  have HB1 : Hid (Tryd.prog.built 54 [(0, .agg (hA h)), (1, .slice mo ml mc)] = some (gA h (.slice mo ml mc) nilS 0 nilS)) := built_didA oh _ rfl
  have HB2 : Hid (Tryd.prog.built 95 [(0, .agg (gA h (.slice mo ml mc) nilS 0 nilS)), (2, .int .u32 h.pc), (5, .agg #[.int .u32 bf, .int .u32 bt])] = some (uA (mstart h l) (.slice mo ml mc) nilS nilS bf bt)) := built_start oh l _ bf bt
  have HSH : Hid ((hA h).size = 37) := hA_size oh
  have HSU : Hid ((uA (mstart h l) (.slice mo ml mc) nilS nilS bf bt).size = 50) := uA_size (start_ok oh l) _ _ _ _ _
  have h32 : (hA h)[32]? = some (.int .u32 h.pc) := by unfold hA; rw [List.getElem?_toArray]; exact hL_fld oh 0
  have HV : Hid (∀ X : World, X.heap.size = w.heap.size + 1 + 1 + 1 → Gr w X → RV (X.alloc (.cells (uA (mstart h l) (.slice mo ml mc) nilS nilS bf bt) 95)) w.heap.size (w.heap.size + 1 + 1 + 1) (mstart h l) bf bt (.slice mo ml mc) nilS nilS) := fun X hX G => by
    have G2 : Gr w (X.alloc (.cells (uA (mstart h l) (.slice mo ml mc) nilS nilS bf bt) 95)) := G.alloc _
    refine ⟨start_ok oh l, by omega, by rw [← hX]; exact heap_alloc_new X _, ⟨mo, mc, ?_, ?_, ?_⟩, World.ownsRow_nil _ _ _ _, World.ownsRow_nil _ _ _ _⟩
    · show Value.slice mo ml mc = .slice mo l.length mc
      rw [Mm.len]
    · show Mem _ mo l.length l
      rw [Mm.len]
      exact Mm.of G2
    · intro ad e h0
      have hlen : 0 < ml := by have := Mm.len; have h1 : 0 < l.length := h0; omega
      obtain ⟨b, o, e2, hb, _⟩ := Mm.spot hlen
      rw [e] at e2
      obtain rfl := Option.some.inj e2
      exact .inl hb
  have HMl : Hid (l.length = ml) := Mm.len
  have HC : Hid (Cs w ao n code) := C
  have HCL : Hid (code.length = n) := C.len
  have HMay : Hid (code.length ≤ 200 ∧ ∀ i ∈ code, micOk i = true) := by
    unfold mayC at hmay
    simp only [Bool.and_eq_true, decide_eq_true_eq, List.all_eq_true] at hmay
    exact hmay
  have HOH : Hid h.Ok := oh
  have n200 : n ≤ 200 := by have := HMay.out.1; have := HCL.out; omega
  clear C hmay Mm oh
  generalize hHA : hA h = H0 at *
  generalize hUA : uA (mstart h l) (.slice mo ml mc) nilS nilS bf bt = U0 at *
  generalize hGA : gA h (.slice mo ml mc) nilS 0 nilS = G0 at *
  clear hHA hUA hGA
  generalize h.pc = pc at *
  go_enter Tryd.func16, Tryd.ntmps16
  go_wp2_with (first
    | (refine wpList_load_row rfl 48 (.tmp 6) rfl w.heap.size rfl 48 H0 (0, 0) _ ?lh1 Tryd.underlying48 rfl (by rw [HSH.out]; exact iHa) ?_; (case lh1 => exact heap_up (((Gr.refl _).alloc _).alloc _) (heap_alloc_new w _)))
    | (refine wpList_buildTo rfl 54 _ rfl _ rfl G0 (by have := HB1.out; simp [Act.eval, Act.put]; exact this) ?_)
    | (refine wpList_buildTo rfl 95 _ rfl _ rfl U0 (by have := HB2.out; simp [Act.eval, Act.put]; exact this) ?_))
  refine atW (fun X => RV X w.heap.size (w.heap.size + 1 + 1 + 1) (mstart h l) bf bt (.slice mo ml mc) nilS nilS ∧ (∃ Z : Array Value, Z.size = 41 ∧ X.heap[w.heap.size + 1 + 1]? = some (.cells Z 54 (0, 0))) ∧ Gr w X) ?_ ?_
  · refine ⟨HV.out _ (by simp) ((((Gr.refl _).alloc _).alloc _).alloc _), ⟨_, ?_, heap_up ((Gr.refl _).alloc _) (by have := heap_alloc_new ((w.alloc (.cells H0 48)).alloc (.cells #[.int .u32 bf, .int .u32 bt] 50)) (.cells #[.int .u32 0, .int .u32 0, .int .u32 0, .int .u32 0, .int .u32 0, .int .u32 0, .int .u32 0, .int .u32 0, .int .u32 0, .int .u32 0, .int .u32 0, .int .u32 0, .int .u32 0, .int .u32 0, .int .u32 0, .int .u32 0, .int .u32 0, .int .u32 0, .int .u32 0, .int .u32 0, .int .u32 0, .int .u32 0, .int .u32 0, .int .u32 0, .int .u32 0, .int .u32 0, .int .u32 0, .int .u32 0, .int .u32 0, .int .u32 0, .int .u32 0, .int .u32 0, .int .u32 0, .bool false, .int .u32 0, .int .i64 0, .int .i64 0, .slice none 0 0, .slice none 0 0, .int .i64 0, .slice none 0 0] 54 (0, 0)); rwa [World.size_alloc, World.size_alloc] at this)⟩, (((((Gr.refl _).alloc _).alloc _).alloc _).alloc _)⟩
    rfl
  rintro X ⟨V0, ⟨Z, hZ, BZ⟩, GX⟩
  have HV0 : Hid (RV X w.heap.size (w.heap.size + 1 + 1 + 1) (mstart h l) bf bt (.slice mo ml mc) nilS nilS) := V0
  have HBZ : Hid (X.heap[w.heap.size + 1 + 1]? = some (.cells Z 54 (0, 0))) := BZ
  have HGX : Hid (Gr w X) := GX
  have HZ : Hid (Z.size = 41) := hZ
  clear V0 BZ GX HV HB1 HB2 HSH HSU h32 hZ
  go_loopw [12] (fun i wr => ∃ j : Nat, j ≤ n ∧ i = .int .i64 j ∧ Ru wr w.heap.size (w.heap.size + 1 + 1 + 1) (mrun bf bt steps (mstart h l) (code.take j)) bf bt ∧ wr.heap[w.heap.size + 1 + 1]? = some (.cells Z 54 (0, 0)) ∧ Gr w wr) (fun i _ => n - (intOf i).toNat)
  case atStart => exact ⟨0, Nat.zero_le _, rfl, ⟨_, _, _, HV0.out⟩, HBZ.out, HGX.out⟩
  case round =>
    obtain ⟨j, hj, rfl, R, B, G⟩ := hrel
    have HR : Hid (Ru wr w.heap.size (w.heap.size + 1 + 1 + 1) (mrun bf bt steps (mstart h l) (code.take j)) bf bt) := R
    have HB : Hid (wr.heap[w.heap.size + 1 + 1]? = some (.cells Z 54 (0, 0))) := B
    have HG : Hid (Gr w wr) := G
    obtain ⟨b1, b2, b3, b4⟩ := bd_mrun bf bt steps (mstart h l) code j
    have b1' : (mrun bf bt steps (mstart h l) (code.take j)).m.length ≤ 4096 := by rw [b1]; show l.length ≤ 4096; rw [HMl.out]; exact hl
    have b2' : (mrun bf bt steps (mstart h l) (code.take j)).sto.length ≤ 1000000 := by have : (mstart h l).sto.length = 0 := rfl; omega
    have b3' : (mrun bf bt steps (mstart h l) (code.take j)).out.length ≤ 1000000 := by have : (mstart h l).out.length = 0 := rfl; omega
    have b4' : (mrun bf bt steps (mstart h l) (code.take j)).n ≤ 1000000 := by have : (mstart h l).n = 0 := rfl; omega
    have HTk : Hid (∀ i, code[j]? = some i → (mrun bf bt steps (mstart h l) (code.take j)).over = false → mrun bf bt steps (mstart h l) (code.take (j + 1)) = mic bf bt steps (mrun bf bt steps (mstart h l) (code.take j)) i) := fun i hi ho => mrun_take bf bt steps hi ho
    have HDn : Hid ((mrun bf bt steps (mstart h l) (code.take j)).over = true ∨ j = n → mplay bf bt steps h l code = mend (mrun bf bt steps (mstart h l) (code.take j))) := fun hd => by
      unfold mplay
      rcases hd with ho | rfl
      · rw [mrun_done bf bt steps ho]
      · rw [← HCL.out, List.take_length]
    clear R B G b1 b2 b3 b4 HV0 HBZ HGX
    generalize mrun bf bt steps (mstart h l) (code.take j) = r at *
    obtain ⟨M, O, S, V⟩ := HR.out
    have HVr : Hid (RV wr w.heap.size (w.heap.size + 1 + 1 + 1) r bf bt M O S) := V
    have q47 : wr.cell? ⟨w.heap.size + 1 + 1 + 1, 47, none⟩ = some (.bool r.over) := (V.last 2).trans rfl
    have q39 : wr.cell? ⟨w.heap.size + 1 + 1 + 1, 39, none⟩ = some (.int .i64 r.n) := (V.top 2).trans rfl
    have q45 : wr.cell? ⟨w.heap.size + 1 + 1 + 1, 45, none⟩ = some (.int .u32 r.here) := (V.last 0).trans rfl
    have q32 : wr.cell? ⟨w.heap.size + 1 + 1 + 1, 32, none⟩ = some (.int .u32 r.h.pc) := V.fld (j := 0) (by omega)
    have f32 := V.fz 32
    have hgl : w.heap.size + 1 + 1 + 1 < wr.heap.size := V.lt
    have HW : Hid (W r.here) := ⟨V.ok.h0, V.ok.h1⟩
    cases hov : r.over with
    | true =>
      have HEq : Hid (mplay bf bt steps h l code = r) := by
        unfold Hid
        rw [HDn.out (.inl hov)]
        unfold mend
        rw [if_neg (by simp [hov])]
      rw [hov] at q47
      clear V HDn HTk HR HC HMay
      by_cases hlt : j < n
      · 
        have HDid : Hid (wr.rangeAt (w.heap.size + 1 + 1 + 1) 0 (gL r.h M O r.n S)) := HVr.out.did
        have HSZ : Hid ((gL r.h M O r.n S).length = 41) := gL_len HVr.out.ok.h _ _ _ _
        have HSA : Hid ((gL r.h M O r.n S).toArray.size = 41) := by unfold Hid; rw [List.size_toArray]; exact HSZ.out
        have HON : Hid ((gL r.h M O r.n S).toArray.all (·.oneCell') = true) := HVr.out.ones
        have HGA : Hid (gA r.h M O r.n S = (gL r.h M O r.n S).toArray) := rfl
        generalize gL r.h M O r.n S = D at *
        go_wp2_with (first
          | (refine wpList_load_mid rfl 54 _ rfl (w.heap.size + 1 + 1 + 1) 0 rfl D _ ?lm1 Tryd.underlying54 rfl (by rw [HSZ.out]; exact iDidA) ?_; (case lm1 => exact HDid.out))
          | (refine wpList_store_row rfl 54 _ _ rfl (w.heap.size + 1 + 1) D.toArray rfl rfl 54 Z ?sr1 (by rw [HSA.out]; exact iDidA) (by rw [HSA.out]; exact HZ.out) HON.out ?_; (case sr1 => exact HB.out)))
        refine bodyPost_ret (v := .agg D.toArray) (results_cell_row Tryd.results16 _ _ _ _ _ (0, 0) _ rfl (setRow_heap _ _ _ _ _ (0, 0) HB.out) Tryd.underlying54 rfl (by rw [HSA.out]; exact iDidA)) rfl ⟨M, O, S, ?_, ?_, ?_⟩
        · rw [HEq.out, HGA.out]
        · rw [HEq.out]
          exact HVr.out.dr (by omega) HB.out _
        · exact gr_setRow HG.out (by omega) _
      · have ej : j = n := by omega
        have HDid : Hid (wr.rangeAt (w.heap.size + 1 + 1 + 1) 0 (gL r.h M O r.n S)) := HVr.out.did
        have HSZ : Hid ((gL r.h M O r.n S).length = 41) := gL_len HVr.out.ok.h _ _ _ _
        have HSA : Hid ((gL r.h M O r.n S).toArray.size = 41) := by unfold Hid; rw [List.size_toArray]; exact HSZ.out
        have HON : Hid ((gL r.h M O r.n S).toArray.all (·.oneCell') = true) := HVr.out.ones
        have HGA : Hid (gA r.h M O r.n S = (gL r.h M O r.n S).toArray) := rfl
        generalize gL r.h M O r.n S = D at *
        go_wp2_with (first
          | (refine wpList_load_mid rfl 54 _ rfl (w.heap.size + 1 + 1 + 1) 0 rfl D _ ?lm1 Tryd.underlying54 rfl (by rw [HSZ.out]; exact iDidA) ?_; (case lm1 => exact HDid.out))
          | (refine wpList_store_row rfl 54 _ _ rfl (w.heap.size + 1 + 1) D.toArray rfl rfl 54 Z ?sr1 (by rw [HSA.out]; exact iDidA) (by rw [HSA.out]; exact HZ.out) HON.out ?_; (case sr1 => exact HB.out)))
        refine bodyPost_ret (v := .agg D.toArray) (results_cell_row Tryd.results16 _ _ _ _ _ (0, 0) _ rfl (setRow_heap _ _ _ _ _ (0, 0) HB.out) Tryd.underlying54 rfl (by rw [HSA.out]; exact iDidA)) rfl ⟨M, O, S, ?_, ?_, ?_⟩
        · rw [HEq.out, HGA.out]
        · rw [HEq.out]
          exact HVr.out.dr (by omega) HB.out _
        · exact gr_setRow HG.out (by omega) _
    | false =>
      rw [hov] at q47
      by_cases hlt : j < n
      · obtain ⟨c, hc⟩ : ∃ c, code[j]? = some c := ⟨_, List.getElem?_eq_getElem (by rw [HCL.out]; exact hlt)⟩
        obtain ⟨b, o, rfl, hb, hcell⟩ := (HC.out.of HG.out).spot (by omega)
        obtain ⟨p0, p1, p2, p3, p4⟩ := hcell j c hc
        have hmem := List.mem_of_getElem? hc
        obtain ⟨m0, ⟨m1, m2⟩, ⟨m3, m4⟩, m5, m6⟩ := micOk_named (HMay.out.2 c hmem)
        have On : Hid (Calls Tryd.prog 33 #[.pointer (some ⟨w.heap.size + 1 + 1 + 1, 0, none⟩), .agg #[.int .i64 c.op, .int .i64 c.d, .int .i64 c.a, .int .i64 c.b, .int .u32 c.n], .int .i64 steps] wr fun e w' => e = .returned (.tuple #[]) ∧ Ru w' w.heap.size (w.heap.size + 1 + 1 + 1) (mic bf bt steps r ⟨c.op, c.d, c.a, c.b, c.n⟩) bf bt ∧ Fu w.heap.size wr w') := one_any HR.out c.op c.d c.a c.b c.n steps m1 m2 m3 m4 m5 m6 (HC.out.wn c hmem) b1' b2' b3' b4' m0
        have HNx : Hid (mrun bf bt steps (mstart h l) (code.take (j + 1)) = mic bf bt steps r ⟨c.op, c.d, c.a, c.b, c.n⟩) := HTk.out c hc hov
        clear V hcell hc hmem HTk HDn m0 m1 m2 m3 m4 m5 m6 hov
        obtain ⟨op, d, a, b0, nn⟩ := c
        simp only at *
        generalize mic bf bt steps r ⟨op, d, a, b0, nn⟩ = r2 at *
        go_wp2_with fail
        refine On.out.mono ?_
        rintro e w2 ⟨rfl, R2, F2⟩
        have HR2 : Hid (Ru w2 w.heap.size (w.heap.size + 1 + 1 + 1) r2 bf bt) := R2
        have HG2 : Hid (Gr w w2) := F2.gr HG.out
        have HB2 : Hid (w2.heap[w.heap.size + 1 + 1]? = some (.cells Z 54 (0, 0))) := (F2.keep _ _ _ _ HB.out (by decide) (by decide) (by decide)).trans HB.out
        clear R2 F2 On q47 q39 q45 q32 f32 p0 p1 p2 p3 p4 HVr HR HB HG
        go_wp2_with fail
        go_roundw
        case rel => exact ⟨j + 1, by omega, by go_num, by rw [HNx.out]; exact HR2.out, HB2.out, HG2.out⟩
        case measure => simp [intOf]; omega
      · have ej : j = n := by omega
        by_cases hz : r.n = 0
        · have HEq : Hid (mplay bf bt steps h l code = r) := by
            unfold Hid
            rw [HDn.out (.inr ej)]
            unfold mend
            rw [if_neg (by omega)]
          have hz2 : (r.n : Int) = 0 := by omega
          clear V HDn HTk HR HC HMay
          have HDid : Hid (wr.rangeAt (w.heap.size + 1 + 1 + 1) 0 (gL r.h M O r.n S)) := HVr.out.did
          have HSZ : Hid ((gL r.h M O r.n S).length = 41) := gL_len HVr.out.ok.h _ _ _ _
          have HSA : Hid ((gL r.h M O r.n S).toArray.size = 41) := by unfold Hid; rw [List.size_toArray]; exact HSZ.out
          have HON : Hid ((gL r.h M O r.n S).toArray.all (·.oneCell') = true) := HVr.out.ones
          have HGA : Hid (gA r.h M O r.n S = (gL r.h M O r.n S).toArray) := rfl
          generalize gL r.h M O r.n S = D at *
          go_wp2_with (first
            | (refine wpList_load_mid rfl 54 _ rfl (w.heap.size + 1 + 1 + 1) 0 rfl D _ ?lm1 Tryd.underlying54 rfl (by rw [HSZ.out]; exact iDidA) ?_; (case lm1 => exact HDid.out))
            | (refine wpList_store_row rfl 54 _ _ rfl (w.heap.size + 1 + 1) D.toArray rfl rfl 54 Z ?sr1 (by rw [HSA.out]; exact iDidA) (by rw [HSA.out]; exact HZ.out) HON.out ?_; (case sr1 => exact HB.out)))
          refine bodyPost_ret (v := .agg D.toArray) (results_cell_row Tryd.results16 _ _ _ _ _ (0, 0) _ rfl (setRow_heap _ _ _ _ _ (0, 0) HB.out) Tryd.underlying54 rfl (by rw [HSA.out]; exact iDidA)) rfl ⟨M, O, S, ?_, ?_, ?_⟩
          · rw [HEq.out, HGA.out]
          · rw [HEq.out]
            exact HVr.out.dr (by omega) HB.out _
          · exact gr_setRow HG.out (by omega) _
        · have wp := W.lo (r.here + 4)
          have V2 := V.hart (i := 32) (by omega) (set_pc V.ok.h (Wd.lo (r.here + 4))) (V.ok.h.go wp.1 wp.2)
          have HEq : Hid (mplay bf bt steps h l code = { r with h := r.h.go (Wd.lo (r.here + 4)) }) := by
            unfold Hid
            rw [HDn.out (.inr ej)]
            unfold mend
            rw [if_pos ⟨hov, by omega⟩]
          have HV2 : Hid (RV (wr.setCell ⟨w.heap.size + 1 + 1 + 1, 32, none⟩ (.int .u32 (Wd.lo (r.here + 4)))) w.heap.size (w.heap.size + 1 + 1 + 1) { r with h := r.h.go (Wd.lo (r.here + 4)) } bf bt M O S) := V2
          have HB2 : Hid ((wr.setCell ⟨w.heap.size + 1 + 1 + 1, 32, none⟩ (.int .u32 (Wd.lo (r.here + 4)))).heap[w.heap.size + 1 + 1]? = some (.cells Z 54 (0, 0))) := (heap_setCell_other _ _ _ _ (by show w.heap.size + 1 + 1 ≠ w.heap.size + 1 + 1 + 1; omega)).trans HB.out
          have HG2 : Hid (Gr w (wr.setCell ⟨w.heap.size + 1 + 1 + 1, 32, none⟩ (.int .u32 (Wd.lo (r.here + 4))))) := HG.out.setCell (by show w.heap.size ≤ w.heap.size + 1 + 1 + 1; omega) _
          have Sm : Hid (∀ V : World, Calls Tryd.prog 34 #[.int .u32 r.here, .int .u32 4] V fun e w' => e = .returned (.int .u32 (Wd.lo (r.here + 4))) ∧ w' = V) := fun V => sum_any r.here 4 V HW.out ⟨by omega, by omega⟩
          have hz2 : 0 < (r.n : Int) := by omega
          clear V V2 HDn HTk HR HC HMay hov wp
          generalize Wd.lo (r.here + 4) = y at *
          generalize hr2 : ({ r with h := r.h.go y } : Rn) = r2 at *
          have hn2 : r.n = r2.n := by rw [← hr2]
          go_wp2_with fail
          refine (Sm.out _).mono ?_
          rintro e w2 ⟨rfl, rfl⟩
          clear Sm
          have HDid : Hid ((w2.setCell ⟨w.heap.size + 1 + 1 + 1, 32, none⟩ (.int .u32 y)).rangeAt (w.heap.size + 1 + 1 + 1) 0 (gL r2.h M O r2.n S)) := HV2.out.did
          have HSZ : Hid ((gL r2.h M O r2.n S).length = 41) := gL_len HV2.out.ok.h _ _ _ _
          have HSA : Hid ((gL r2.h M O r2.n S).toArray.size = 41) := by unfold Hid; rw [List.size_toArray]; exact HSZ.out
          have HON : Hid ((gL r2.h M O r2.n S).toArray.all (·.oneCell') = true) := HV2.out.ones
          have HGA : Hid (gA r2.h M O r2.n S = (gL r2.h M O r2.n S).toArray) := rfl
          generalize gL r2.h M O r2.n S = D at *
          go_wp2_with (first
            | (refine wpList_load_mid rfl 54 _ rfl (w.heap.size + 1 + 1 + 1) 0 rfl D _ ?lm1 Tryd.underlying54 rfl (by rw [HSZ.out]; exact iDidA) ?_; (case lm1 => exact HDid.out))
            | (refine wpList_store_row rfl 54 _ _ rfl (w.heap.size + 1 + 1) D.toArray rfl rfl 54 Z ?sr1 (by rw [HSA.out]; exact iDidA) (by rw [HSA.out]; exact HZ.out) HON.out ?_; (case sr1 => exact HB2.out)))
          refine bodyPost_ret (v := .agg D.toArray) (results_cell_row Tryd.results16 _ _ _ _ _ (0, 0) _ rfl (setRow_heap _ _ _ _ _ (0, 0) HB2.out) Tryd.underlying54 rfl (by rw [HSA.out]; exact iDidA)) rfl ⟨M, O, S, ?_, ?_, ?_⟩
          · rw [HEq.out, HGA.out]
          · rw [HEq.out]
            exact HV2.out.dr (by omega) HB2.out _
          · exact gr_setRow HG2.out (by omega) _
end Go.Proofs.YtkcgcflpmggjkabDoor.Mi
/-
  What the document's Same answers of two Dids that read as the same run: they are.
-/
namespace Go.Proofs.YtkcgcflpmggjkabDoor.Mi
open Go.ChangeShapes Go.WideShapes Go.ChangeAt Go.RowKit Mm Hh Hc
set_option linter.unusedVariables false
set_option linter.unusedSimpArgs false

theorem neq_hartM {h : Hv} (o : h.Ok) (w : World) : (binOp .neq 48 (.agg (hL h).toArray) (.agg (hL h).toArray)).run Tryd.prog w = .ok (.bool false) w := by
  have e : (binOp .eql 48 (.agg (hL h).toArray) (.agg (hL h).toArray)).run Tryd.prog w = .ok (.bool true) w := eql_hart o w
  have e1 : binOp .eql 48 (.agg (hL h).toArray) (.agg (hL h).toArray) = (do pure (.bool (← Op.equal 48 (.agg (hL h).toArray) (.agg (hL h).toArray)))) := rfl
  have e2 : binOp .neq 48 (.agg (hL h).toArray) (.agg (hL h).toArray) = (do pure (.bool (!(← Op.equal 48 (.agg (hL h).toArray) (.agg (hL h).toArray))))) := rfl
  rw [e1, Sem.run_bind] at e
  rw [e2, Sem.run_bind]
  generalize (Op.equal 48 (.agg (hL h).toArray) (.agg (hL h).toArray)).run Tryd.prog w = r at e ⊢
  cases r with
  | ok v w' =>
    simp only [Result.andThen_ok, Sem.run_pure, Result.ok.injEq, Value.bool.injEq] at e ⊢
    obtain ⟨rfl, rfl⟩ := e
    exact ⟨rfl, rfl⟩
  | _ => simp [Result.andThen] at e
theorem rg_get {ss : List (Int × Int)} : ∀ {i : Nat} {p : Int × Int}, ss[i]? = some p → (rgs ss)[i * 2]? = some (.int .u32 p.1) ∧ (rgs ss)[i * 2 + 1]? = some (.int .u32 (Wd.lo (p.1 + p.2))) := by
  induction ss with
  | nil => intro i p h; simp at h
  | cons q r ih =>
    intro i p h
    have e : rgs (q :: r) = [.int .u32 q.1, .int .u32 (Wd.lo (q.1 + q.2))] ++ rgs r := rfl
    match i, h with
    | 0, h => simp at h; subst h; exact ⟨rfl, rfl⟩
    | i + 1, h =>
      have ih := ih (i := i) (by simpa using h)
      rw [e, List.getElem?_append_right (by simp; omega), List.getElem?_append_right (by simp; omega)]
      simp only [List.length_cons, List.length_nil]
      rw [show (i + 1) * 2 - (0 + 1 + 1) = i * 2 by omega, show (i + 1) * 2 + 1 - (0 + 1 + 1) = i * 2 + 1 by omega]
      exact ih
theorem gA_get {h : Hv} (o : h.Ok) {M O S : Value} {n : Int} (j : Nat) : (gA h M O n S)[37 + j]? = [M, O, Value.int .i64 n, S][j]? := by
  unfold gA gL
  rw [List.getElem?_toArray, List.getElem?_append_right (by simp [hL_len o])]
  simp [hL_len o]
theorem gA_hart {h : Hv} (o : h.Ok) {M O S : Value} {n : Int} {j : Nat} {v : Value} (hv : (hL h)[j]? = some v) : (gA h M O n S)[j]? = some v := by
  have hl := hL_len o
  have hj : j < (hL h).length := (List.getElem?_eq_some_iff.1 hv).1
  unfold gA gL
  rw [List.getElem?_toArray, List.getElem?_append_left hj]
  exact hv
theorem own_at {w : World} {base e sz n : Nat} {v : Value} {xs : List Value} (h : w.ownsRow base e sz v n xs) (hn : 0 < n) : ∃ g c, v = .slice (some ⟨g, 0, none⟩) n c ∧ g < w.heap.size ∧ ∀ j u, xs[j]? = some u → w.cell? ⟨g, j, none⟩ = some u := by
  obtain ⟨g, c, rfl⟩ := own_form h hn
  refine ⟨g, c, rfl, (h.lt g rfl).2, fun j u hu => ?_⟩
  have := h.cells (g := g) rfl j u hu
  rwa [add_at, Nat.zero_add] at this
theorem heapD {w : World} {g n : Nat} {x : Option Obj} (h : w.heap[g]? = x) : (w.drewN n).heap[g]? = x := h
set_option maxHeartbeats 4000000 in
set_option maxRecDepth 100000 in
theorem Same_same {w : World} {r : Rn} {M O S M2 O2 S2 : Value} (D1 : Dr w r M O S) (D2 : Dr w r M2 O2 S2) (ho : r.out.length ≤ 1000000) (hs : r.sto.length ≤ 1000000) :
    Calls Tryd.prog 15 #[.agg (gA r.h M O r.n S), .agg (gA r.h M2 O2 r.n S2)] w fun e w' => e = .returned (.bool true) ∧ Gr w w' := by
  obtain ⟨ok, ⟨ma, mc, rfl, m1⟩, ⟨ob, oo⟩, ⟨sb, so⟩⟩ := D1
  obtain ⟨_, ⟨ma2, mc2, rfl, m2⟩, ⟨ob2, oo2⟩, ⟨sb2, so2⟩⟩ := D2
  obtain ⟨oa, oc, rfl, w1⟩ := wm_own rfl oo
  obtain ⟨oa2, oc2, rfl, w2⟩ := wm_own rfl oo2
  obtain ⟨sa, sc, rfl⟩ := owns_word so
  obtain ⟨sa2, sc2, rfl⟩ := owns_word so2
  have By : Hid (∀ W : World, Gr w W → Calls Tryd.prog 20 #[.slice ma r.m.length mc, .slice ma2 r.m.length mc2] W fun e w' => e = .returned (.bool true) ∧ w' = W) := fun W G => by
    have := Mr.Bytes_any mc mc2 (m1.of G) (m2.of G)
    simpa using this
  have Wo : Hid (∀ W : World, Gr w W → Calls Tryd.prog 21 #[.slice oa r.out.length oc, .slice oa2 r.out.length oc2] W fun e w' => e = .returned (.bool true) ∧ Gr W w') := fun W G => Words_same oc oc2 ho (w1.of G) (w2.of G)
  have HC : Hid (∀ i p, r.sto[i]? = some p → ∃ g1 g2, sa = some ⟨g1, 0, none⟩ ∧ sa2 = some ⟨g2, 0, none⟩ ∧ g1 < w.heap.size ∧ g2 < w.heap.size ∧ (w.cell? ⟨g1, i * 2, none⟩ = some (.int .u32 p.1) ∧ w.cell? ⟨g1, i * 2 + 1, none⟩ = some (.int .u32 (Wd.lo (p.1 + p.2)))) ∧ (w.cell? ⟨g2, i * 2, none⟩ = some (.int .u32 p.1) ∧ w.cell? ⟨g2, i * 2 + 1, none⟩ = some (.int .u32 (Wd.lo (p.1 + p.2))))) := fun i p hp => by
    have hn : 0 < r.sto.length := by have := (List.getElem?_eq_some_iff.1 hp).1; omega
    obtain ⟨g1, d1, e1, l1, c1⟩ := own_at so hn
    obtain ⟨g2, d2, e2, l2, c2⟩ := own_at so2 hn
    injection e1 with f1 _ _
    injection e2 with f2 _ _
    have q := rg_get hp
    exact ⟨g1, g2, f1, f2, l1, l2, ⟨c1 _ _ q.1, c1 _ _ q.2⟩, ⟨c2 _ _ q.1, c2 _ _ q.2⟩⟩
  have ne : ∀ W : World, (binOp .neq 48 (.agg (hL r.h).toArray) (.agg (hL r.h).toArray)).run Tryd.prog W = .ok (.bool false) W := fun W => neq_hartM ok.h W
  have HL : Hid ((hL r.h).length = 37) := hL_len ok.h
  have HX1 : Hid (∀ j v, (hL r.h)[j]? = some v → (gA r.h (.slice ma r.m.length mc) (.slice oa r.out.length oc) r.n (.slice sa r.sto.length sc))[j]? = some v) := fun j v h => gA_hart ok.h h
  have HX2 : Hid (∀ j v, (hL r.h)[j]? = some v → (gA r.h (.slice ma2 r.m.length mc2) (.slice oa2 r.out.length oc2) r.n (.slice sa2 r.sto.length sc2))[j]? = some v) := fun j v h => gA_hart ok.h h
  have x37 : (gA r.h (.slice ma r.m.length mc) (.slice oa r.out.length oc) r.n (.slice sa r.sto.length sc))[37]? = some (.slice ma r.m.length mc) := gA_get ok.h 0
  have x38 : (gA r.h (.slice ma r.m.length mc) (.slice oa r.out.length oc) r.n (.slice sa r.sto.length sc))[38]? = some (.slice oa r.out.length oc) := gA_get ok.h 1
  have x39 : (gA r.h (.slice ma r.m.length mc) (.slice oa r.out.length oc) r.n (.slice sa r.sto.length sc))[39]? = some (.int .i64 r.n) := gA_get ok.h 2
  have x40 : (gA r.h (.slice ma r.m.length mc) (.slice oa r.out.length oc) r.n (.slice sa r.sto.length sc))[40]? = some (.slice sa r.sto.length sc) := gA_get ok.h 3
  have y37 : (gA r.h (.slice ma2 r.m.length mc2) (.slice oa2 r.out.length oc2) r.n (.slice sa2 r.sto.length sc2))[37]? = some (.slice ma2 r.m.length mc2) := gA_get ok.h 0
  have y38 : (gA r.h (.slice ma2 r.m.length mc2) (.slice oa2 r.out.length oc2) r.n (.slice sa2 r.sto.length sc2))[38]? = some (.slice oa2 r.out.length oc2) := gA_get ok.h 1
  have y39 : (gA r.h (.slice ma2 r.m.length mc2) (.slice oa2 r.out.length oc2) r.n (.slice sa2 r.sto.length sc2))[39]? = some (.int .i64 r.n) := gA_get ok.h 2
  have y40 : (gA r.h (.slice ma2 r.m.length mc2) (.slice oa2 r.out.length oc2) r.n (.slice sa2 r.sto.length sc2))[40]? = some (.slice sa2 r.sto.length sc2) := gA_get ok.h 3
  clear m1 m2 oo oo2 so so2 w1 w2 ok
  generalize gA r.h (.slice ma r.m.length mc) (.slice oa r.out.length oc) r.n (.slice sa r.sto.length sc) = A1 at *
  generalize gA r.h (.slice ma2 r.m.length mc2) (.slice oa2 r.out.length oc2) r.n (.slice sa2 r.sto.length sc2) = A2 at *
  generalize hsl : r.sto.length = sn at *
  have HSL : Hid (r.sto.length = sn) := hsl
  clear hsl
  generalize r.m.length = mn at *
  generalize r.out.length = on at *
  generalize (r.n : Int) = rn at *
  have HA1 : Hid (((w.alloc (.cells A1 54)).alloc (.cells A2 54)).heap[w.heap.size]? = some (.cells A1 54 (0, 0))) := heap_alloc2_old w _ _
  have HA2 : Hid (((w.alloc (.cells A1 54)).alloc (.cells A2 54)).heap[w.heap.size + 1]? = some (.cells A2 54 (0, 0))) := heap_alloc2_new w _ _
  have R1 : Hid (((w.alloc (.cells A1 54)).alloc (.cells A2 54)).rangeAt w.heap.size 0 (hL r.h)) := fun j v hv => by rw [Nat.zero_add]; exact (cell_of_row _ _ _ _ _ _ HA1.out).trans (HX1.out j v hv)
  have R2 : Hid (((w.alloc (.cells A1 54)).alloc (.cells A2 54)).rangeAt (w.heap.size + 1) 0 (hL r.h)) := fun j v hv => by rw [Nat.zero_add]; exact (cell_of_row _ _ _ _ _ _ HA2.out).trans (HX2.out j v hv)
  go_enter Tryd.func15, Tryd.ntmps15
  go_wp2_with (first
    | (refine wpList_load_mid rfl 48 (.tmp 6) rfl w.heap.size 0 rfl (hL r.h) _ ?lm1 Tryd.underlying48 rfl (by rw [HL.out]; exact iHa) ?_; (case lm1 => exact R1.out))
    | (refine wpList_load_mid rfl 48 (.tmp 8) rfl (w.heap.size + 1) 0 rfl (hL r.h) _ ?lm2 Tryd.underlying48 rfl (by rw [HL.out]; exact iHa) ?_; (case lm2 => exact R2.out)))
  refine (By.out _ (((Gr.refl _).alloc _).alloc _)).mono ?_
  rintro e w0 ⟨rfl, rfl⟩
  clear By R1 R2 ne
  go_wp2_with fail
  refine (Wo.out _ (((Gr.refl _).alloc _).alloc _)).mono ?_
  rintro e w3 ⟨rfl, G3⟩
  have HG3 : Hid (Gr w w3) := (((Gr.refl _).alloc _).alloc _).trans G3
  have HB1 : Hid (w3.heap[w.heap.size]? = some (.cells A1 54 (0, 0))) := heap_up G3 HA1.out
  have HB2 : Hid (w3.heap[w.heap.size + 1]? = some (.cells A2 54 (0, 0))) := heap_up G3 HA2.out
  clear G3 Wo HA1 HA2 HX1 HX2
  go_wp2_with fail
  go_loopw [5] (fun i wr => ∃ j : Nat, j ≤ sn ∧ i = .int .i64 j ∧ wr.heap[w.heap.size]? = some (.cells A1 54 (0, 0)) ∧ wr.heap[w.heap.size + 1]? = some (.cells A2 54 (0, 0)) ∧ Gr w wr) (fun i _ => sn - (intOf i).toNat)
  case atStart => exact ⟨0, Nat.zero_le _, rfl, HB1.out, HB2.out, HG3.out⟩
  case round =>
    obtain ⟨j, hj, rfl, B1, B2, G⟩ := hrel
    have HC1 : Hid (wr.heap[w.heap.size]? = some (.cells A1 54 (0, 0))) := B1
    have HC2 : Hid (wr.heap[w.heap.size + 1]? = some (.cells A2 54 (0, 0))) := B2
    have HG : Hid (Gr w wr) := G
    have k1 : wr.cell? ⟨w.heap.size, 40, none⟩ = some (.slice sa sn sc) := (cell_of_row _ _ _ _ _ _ B1).trans x40
    have k2 : wr.cell? ⟨w.heap.size + 1, 40, none⟩ = some (.slice sa2 sn sc2) := (cell_of_row _ _ _ _ _ _ B2).trans y40
    clear B1 B2 G
    by_cases hlt : j < sn
    · obtain ⟨p, hp⟩ : ∃ p, r.sto[j]? = some p := ⟨_, List.getElem?_eq_getElem (by rw [HSL.out]; exact hlt)⟩
      obtain ⟨g1, g2, rfl, rfl, l1, l2, ⟨p0, p1⟩, ⟨q0, q1⟩⟩ := HC.out j p hp
      have P0 := (HG.out.cell ⟨g1, j * 2, none⟩ (by exact l1)).trans p0
      have P1 := (HG.out.cell ⟨g1, j * 2 + 1, none⟩ (by exact l1)).trans p1
      have Q0 := (HG.out.cell ⟨g2, j * 2, none⟩ (by exact l2)).trans q0
      have Q1 := (HG.out.cell ⟨g2, j * 2 + 1, none⟩ (by exact l2)).trans q1
      clear HC hp p0 p1 q0 q1
      generalize Wd.lo (p.1 + p.2) = y at *
      generalize p.1 = x at *
      go_wp2
      go_quiet (fail)
      go_wp2
      go_roundw
      case rel => exact ⟨j + 1, by omega, by go_num, heapD HC1.out, heapD HC2.out, HG.out.drewN _⟩
      case measure => simp [intOf]; omega
    · go_wp2
      go_ret
      exact ⟨rfl, HG.out⟩
end Go.Proofs.YtkcgcflpmggjkabDoor.Mi
