/-
  Km, Kn, Ew: texts of ours that lie in one file.
-/
import Derived.Test.YtchllaeembmioaaGreatDoorQ21
import Derived.Test.YtchllaeembmioaaGreatDoorQ06
import Derived.Test.YtchllaeembmioaaGreatDoorQ14
import Derived.Test.YtchllaeembmioaaGreatDoorQ20
set_option linter.unusedVariables false
set_option linter.unusedSimpArgs false
set_option maxHeartbeats 8000000
set_option maxRecDepth 100000
namespace Go.Proofs.YtchllaeembmioaaGreatDoor.Kc
open Go.ChangeShapes Go.WideShapes Go.ChangeAt Go.RowKit Mm Ts Hc

theorem results_ct {P : Program} {fn : Func} {p t : Tmp} {ty : TypeId} (h : fn.results = #[.cell p ty, .tmp t]) (tmps : Array Value) (w : World) (g : Nat) (tt : TypeId) (cs : Array Value) (fr : Nat × Nat) (d : TypeDesc)
  (v : Value) (hp : tmps.getD p undef = .pointer (some ⟨g, 0, none⟩)) (hv : tmps.getD t undef = v) (hg : w.heap[g]? = some (.cells cs tt fr))
  (hu : P.underlying ty = some d) (hd : (match d with | .struct _ | .array _ _ => true | _ => false) = true) (hi : (P.info? ty).map (·.size) = some cs.size) :
  (results fn tmps).run P w = .ok (.tuple #[.agg cs, v]) w := by
 subst hv
 have hp' : tmps[p]?.getD undef = .pointer (some ⟨g, 0, none⟩) := by simpa using hp
 simp [results, h, hp', asAddr, run_loadVar_row w g tt ty cs fr d hg hu hd hi]
theorem New_aux (w : World) (rm r1 r2 : Int) (h : rm < 0 ∧ r1 = 0 ∧ r2 = 3 ∨ ¬ rm < 0 ∧ 64 < rm ∧ r1 = 0 ∧ r2 = 3 ∨ ¬ rm < 0 ∧ ¬ 64 < rm ∧ r1 = rm ∧ r2 = 0) : Calls Tryz.prog 18 #[.int .i64 rm] w fun e w' => e = .returned (.tuple #[.agg #[.int .i64 r1, .slice none 0 0, .int .i64 0, .int .i64 0], .int .i64 r2]) ∧ Gr w w' := by
 rcases h with ⟨h0, q⟩ | ⟨h0, h1, q⟩ | ⟨h0, h1, q⟩
 ·have HE : Hid (r1 = 0 ∧ r2 = 3) := q
  clear q
  go_enter Tryz.func18, Tryz.ntmps18
  go_wp2
  exact bodyPost_ret (v := .tuple #[.agg #[.int .i64 0, .slice none 0 0, .int .i64 0, .int .i64 0], .int .i64 3]) (results_ct Tryz.results18 _ _ _ _ _ (0, 0) _ _ rfl rfl (heap_alloc_new w _) Tryz.underlying35 rfl iCa) rfl ⟨by rw [HE.out.1, HE.out.2], (Gr.refl _).alloc _⟩
 ·have HE : Hid (r1 = 0 ∧ r2 = 3) := q
  clear q
  go_enter Tryz.func18, Tryz.ntmps18
  go_wp2
  exact bodyPost_ret (v := .tuple #[.agg #[.int .i64 0, .slice none 0 0, .int .i64 0, .int .i64 0], .int .i64 3]) (results_ct Tryz.results18 _ _ _ _ _ (0, 0) _ _ rfl rfl (heap_alloc_new w _) Tryz.underlying35 rfl iCa) rfl ⟨by rw [HE.out.1, HE.out.2], (Gr.refl _).alloc _⟩
 ·have HE : Hid (r1 = rm ∧ r2 = 0) := q
  clear q
  go_enter Tryz.func18, Tryz.ntmps18
  go_wp2
  exact bodyPost_ret (v := .tuple #[.agg #[.int .i64 rm, .slice none 0 0, .int .i64 0, .int .i64 0], .int .i64 0]) (results_ct Tryz.results18 _ _ _ _ _ (0, 0) _ _ rfl rfl (heap_alloc_new w _) Tryz.underlying35 rfl iCa) rfl ⟨by rw [HE.out.1, HE.out.2], (Gr.refl _).alloc _⟩
theorem fnd_neg {pc : Int} {bs : List Bv} (h : place pc bs 0 = -1) : fnd pc bs = ⟨0, []⟩ := by unfold fnd; rw [h, if_neg (by omega)]
theorem fnd_pos {pc : Int} {bs : List Bv} {j : Nat} {x : Bv} (h : place pc bs 0 = (j : Int)) (hx : bs[j]? = some x) : fnd pc bs = x := by
 unfold fnd
 rw [h, if_pos (by omega), Int.toNat_natCast, List.getD, hx]
 rfl
theorem bc_none (w : World) : Bc w ⟨0, []⟩ (.int .u32 0) (.slice none 0 0) := ⟨rfl, ⟨by decide, by decide⟩, none, 0, 0, rfl, ⟨rfl, fun i h => (by cases h), fun h => absurd h (by omega)⟩, by omega⟩
theorem Find_any {w : World} {ao : Option Addr} {n : Nat} (cap : Nat) {bs : List Bv} (B : Bs w ao n bs) (hn : n * 32 ≤ 140737488351232) (room pu sl pc : Int) :
  Calls Tryz.prog 70 #[.agg #[.int .i64 room, .slice ao n cap, .int .i64 pu, .int .i64 sl], .int .u32 pc] w fun e w' => ∃ x y, e = .returned (.tuple #[.agg #[x, y], .bool (decide (0 ≤ place pc bs 0))]) ∧ Bc w' (fnd pc bs) x y ∧ Gr w w' := by
 have AT : Hid (∀ W : World, Calls Tryz.prog 92 #[.int .u32 pc] W fun e w' => ∃ B, e = .returned (.func (.func 115) #[] #[.pointer (some ⟨B, 0, none⟩)]) ∧ w'.cell? ⟨B, 0, none⟩ = some (.int .u32 pc) ∧ Gr W w') := fun W => at_any W pc
 have IDX : Hid (∀ (W : World) (K : Nat), Gr w W → W.cell? ⟨K, 0, none⟩ = some (.int .u32 pc) → Calls Tryz.prog 91 #[.slice ao n cap, .func (.func 115) #[] #[.pointer (some ⟨K, 0, none⟩)]] W fun e w' => e = .returned (.int .i64 (place pc bs 0)) ∧ Gr W w') := fun W K G hk => by
  rw [← fidx_place]
  exact idx_at cap (B.bq.of G) (by omega) K (fun b => decide (b.pc = pc)) fun W' b sa sc G' _ => at1_any ((G'.cell _ (by exact World.block_lt_of_cell? W _ hk)).trans hk) b.pc sa b.is.length sc
 have HB : Hid (Bs w ao n bs) := B
 have HX : Hid (∀ W : World, Gr ((w.alloc (.cells #[.int .i64 room, .slice ao n cap, .int .i64 pu, .int .i64 sl] 35)).alloc (.cells #[.int .u32 0, .slice none 0 0] 45)) W → W.cell? ⟨w.heap.size, 1, none⟩ = some (.slice ao n cap) ∧ W.heap[w.heap.size + 1]? = some (.cells #[.int .u32 0, .slice none 0 0] 45 (0, 0)) ∧ Gr w W) := fun W G =>
  ⟨cell_of_row _ _ _ _ _ _ (up_h (((Gr.refl _).alloc _).trans G) (heap_alloc_new w _)), up_h G (new2 w _ _), (((Gr.refl w).alloc _).alloc _).trans G⟩
 clear B
 have HPB : Hid (place pc bs 0 = -1 ∨ ∃ (j : Nat) (x : Bv), place pc bs 0 = (j : Int) ∧ j < n ∧ bs[j]? = some x) := by
  rcases place_bd pc bs 0 with h | ⟨j, x, h, hx⟩
  ·exact .inl h
  ·rw [Nat.zero_add] at h
   exact .inr ⟨j, x, h, by rw [← HB.out.len]; exact (List.getElem?_eq_some_iff.1 hx).1, hx⟩
 rcases HPB.out with hp | ⟨j, b, hp, hj, hb⟩
 ·have HF : Hid (fnd pc bs = ⟨0, []⟩) := fnd_neg hp
  rw [hp] at IDX
  rw [hp]
  clear HPB hp HB
  generalize fnd pc bs = fb at *
  go_enter Tryz.func70, Tryz.ntmps70
  go_wp2_with fail
  go_region_with (first
   | (go_at_call 92; refine (AT.out _).mono ?_; rintro e w2 ⟨K, rfl, hk, G2⟩; have HG2 : Hid (Gr ((w.alloc (.cells #[.int .i64 room, .slice ao n cap, .int .i64 pu, .int .i64 sl] 35)).alloc (.cells #[.int .u32 0, .slice none 0 0] 45)) w2) := Gr.trans (by repeat (first | exact Gr.refl _ | refine Gr.drewN ?_ _ | refine Gr.drew ?_)) G2; have x1 : w2.cell? ⟨w.heap.size, 1, none⟩ = some (.slice ao n cap) := (HX.out _ HG2.out).1; clear G2)
   | (go_at_call 91; refine (IDX.out _ K (HX.out _ HG2.out).2.2 hk).mono ?_; rintro e w3 ⟨rfl, G3⟩; have HG3 : Hid (Gr ((w.alloc (.cells #[.int .i64 room, .slice ao n cap, .int .i64 pu, .int .i64 sl] 35)).alloc (.cells #[.int .u32 0, .slice none 0 0] 45)) w3) := HG2.out.trans G3; clear G3))
  all_goals
   clear x1 hk HG2 IDX AT
   clear w2
   have y1 : w3.heap[w.heap.size + 1]? = some (.cells #[.int .u32 0, .slice none 0 0] 45 (0, 0)) := (HX.out _ HG3.out).2.1
   have HY : Hid (w3.heap[w.heap.size + 1]? = some (.cells #[.int .u32 0, .slice none 0 0] 45 (0, 0))) := y1
   have c0 : w3.cell? ⟨w.heap.size + 1, 0, none⟩ = some (.int .u32 0) := cell_of_row _ _ _ _ _ _ y1
   have c1 : w3.cell? ⟨w.heap.size + 1, 1, none⟩ = some (.slice none 0 0) := cell_of_row _ _ _ _ _ _ y1
   have cf : ∀ j, w3.frozen? ⟨w.heap.size + 1, j, none⟩ = false := fun j => frozen_of_row _ _ _ _ _ y1
   have HGw : Hid (Gr w w3) := (HX.out _ HG3.out).2.2
   clear HX HG3 y1
   go_wp2_with fail
   have e2 := heap_setCell_same _ _ 0 _ _ (.int .u32 0) HY.out
   have e3 := heap_setCell_same _ _ 1 _ _ (.slice none 0 0) e2
   refine bodyPost_ret (v := .tuple #[.agg #[.int .u32 0, .slice none 0 0], .bool false]) (results_ct Tryz.results70 _ _ _ _ _ (0, 0) _ _ rfl rfl e3 Tryz.underlying45 rfl iBk) rfl ?_
   have hf : w.heap.size ≤ w.heap.size + 1 := by omega
   refine ⟨.int .u32 0, .slice none 0 0, rfl, ?_, (HGw.out.setCell (by exact hf) _).setCell (by exact hf) _⟩
   rw [HF.out]
   exact bc_none _
 ·have HF : Hid (fnd pc bs = b) := fnd_pos hp hb
  rw [hp] at IDX
  rw [hp]
  obtain ⟨k, o, rfl, hk0, hcell⟩ := HB.out.spot (by omega)
  obtain ⟨u, v, p0, p1, hbc⟩ := hcell j b hb
  obtain ⟨o1, o2, va, vn, vc, rfl⟩ := hbc.ones
  have hu : u = .int .u32 b.pc := hbc.1
  subst hu
  have HOk : Hid (b.Ok) := hbc.ok
  have HCe : Hid (∀ W : World, Gr w W → W.cell? ⟨k, o + j * 2, none⟩ = some (.int .u32 b.pc) ∧ W.cell? ⟨k, o + j * 2 + 1, none⟩ = some (.slice va vn vc)) := fun W G => ⟨(G.cell _ (by exact hk0)).trans p0, (G.cell _ (by exact hk0)).trans p1⟩
  have CP : Hid (∀ W : World, Gr w W → Calls Tryz.prog 93 #[.agg #[.int .u32 b.pc, .slice va vn vc]] W fun e w' => ∃ v, e = .returned (.agg #[.int .u32 b.pc, v]) ∧ Io w' W.heap.size v b.is ∧ Gr W w') := fun W G => copyB_any (hbc.of G)
  have hj0 : (0 : Int) ≤ (j : Int) := by omega
  have hj1 : (j : Int) < (n : Int) := by omega
  have HBc : Hid (∀ (W : World) (v : Value), Io W w.heap.size v b.is → Bc W b (.int .u32 b.pc) v) := fun W v h => h.bc HOk.out
  clear HPB hp HB hcell p0 p1 hbc hb
  generalize fnd pc bs = fb at *
  generalize hbp : b.pc = bp at *
  clear hbp
  go_enter Tryz.func70, Tryz.ntmps70
  go_wp2_with fail
  go_region_with (first
   | (go_at_call 92; refine (AT.out _).mono ?_; rintro e w2 ⟨K, rfl, hk, G2⟩; have HG2 : Hid (Gr ((w.alloc (.cells #[.int .i64 room, .slice (some ⟨k, o, none⟩) n cap, .int .i64 pu, .int .i64 sl] 35)).alloc (.cells #[.int .u32 0, .slice none 0 0] 45)) w2) := Gr.trans (by repeat (first | exact Gr.refl _ | refine Gr.drewN ?_ _ | refine Gr.drew ?_)) G2; have x1 : w2.cell? ⟨w.heap.size, 1, none⟩ = some (.slice (some ⟨k, o, none⟩) n cap) := (HX.out _ HG2.out).1; clear G2)
   | (go_at_call 91; refine (IDX.out _ K (HX.out _ HG2.out).2.2 hk).mono ?_; rintro e w3 ⟨rfl, G3⟩; have HG3 : Hid (Gr ((w.alloc (.cells #[.int .i64 room, .slice (some ⟨k, o, none⟩) n cap, .int .i64 pu, .int .i64 sl] 35)).alloc (.cells #[.int .u32 0, .slice none 0 0] 45)) w3) := HG2.out.trans G3; clear G3))
  all_goals
   clear x1 hk HG2 IDX AT
   clear w2
   have y1 : w3.heap[w.heap.size + 1]? = some (.cells #[.int .u32 0, .slice none 0 0] 45 (0, 0)) := (HX.out _ HG3.out).2.1
   have HY : Hid (w3.heap[w.heap.size + 1]? = some (.cells #[.int .u32 0, .slice none 0 0] 45 (0, 0))) := y1
   have x1 : w3.cell? ⟨w.heap.size, 1, none⟩ = some (.slice (some ⟨k, o, none⟩) n cap) := (HX.out _ HG3.out).1
   have HGw : Hid (Gr w w3) := (HX.out _ HG3.out).2.2
   obtain ⟨d0, d1⟩ := HCe.out _ HGw.out
   clear HX HG3 y1 HCe
   go_wp2_with fail
   refine (CP.out _ HGw.out).mono ?_
   rintro e w4 ⟨v4, rfl, I4, G4⟩
   have HGx : Hid (Gr w w4) := HGw.out.trans G4
   have HI4 : Hid (Io w4 w.heap.size v4 b.is) := I4.low HGw.out.size
   have y2 := up_h G4 HY.out
   have HY2 : Hid (w4.heap[w.heap.size + 1]? = some (.cells #[.int .u32 0, .slice none 0 0] 45 (0, 0))) := y2
   have c0 : w4.cell? ⟨w.heap.size + 1, 0, none⟩ = some (.int .u32 0) := cell_of_row _ _ _ _ _ _ y2
   have c1 : w4.cell? ⟨w.heap.size + 1, 1, none⟩ = some (.slice none 0 0) := cell_of_row _ _ _ _ _ _ y2
   have cf : ∀ j, w4.frozen? ⟨w.heap.size + 1, j, none⟩ = false := fun j => frozen_of_row _ _ _ _ _ y2
   obtain ⟨ia, ic, rfl⟩ := I4.shape
   clear I4 G4 CP y2 d0 d1 x1
   generalize b.is.length = iq at *
   go_wp2_with fail
   have e2 := heap_setCell_same _ _ 0 _ _ (.int .u32 bp) HY2.out
   have e3 := heap_setCell_same _ _ 1 _ _ (.slice ia iq ic) e2
   refine bodyPost_ret (v := .tuple #[.agg #[.int .u32 bp, .slice ia iq ic], .bool true]) (results_ct Tryz.results70 _ _ _ _ _ (0, 0) _ _ rfl rfl e3 Tryz.underlying45 rfl iBk) rfl ?_
   have hf : w.heap.size ≤ w.heap.size + 1 := by omega
   refine ⟨.int .u32 bp, .slice ia iq ic, by simp, ?_, (HGx.out.setCell (by exact hf) _).setCell (by exact hf) _⟩
   rw [HF.out]
   refine HBc.out _ _ (HI4.out.to fun z c r hz => ?_)
   have nz : z ≠ w.heap.size + 1 := ne_of_types hz HY2.out (by decide)
   rw [heap_setCell_other _ _ _ _ (by exact nz), heap_setCell_other _ _ _ _ (by exact nz)]
end Go.Proofs.YtchllaeembmioaaGreatDoor.Kc
namespace Go.Proofs.YtchllaeembmioaaGreatDoor.Kc
open Go.ChangeShapes Go.WideShapes Go.ChangeAt Go.RowKit Mm Ts Hc

def Bt (lo : Nat) (w : World) (ao : Option Addr) (n : Nat) (bs : List Bv) : Prop := ∀ W : World, (∀ (k : Nat) (o : Array Value) (t : Nat) (f : Nat × Nat), lo ≤ k → t = 45 ∨ t = 77 → w.heap[k]? = some (.cells o t f) → W.heap[k]? = w.heap[k]?) → Bs W ao n bs
theorem Bt.bs {lo : Nat} {w : World} {ao : Option Addr} {n : Nat} {bs : List Bv} (h : Bt lo w ao n bs) : Bs w ao n bs := h w fun _ _ _ _ _ _ _ => rfl
theorem Bt.to {lo : Nat} {w w' : World} {ao : Option Addr} {n : Nat} {bs : List Bv} (h : Bt lo w ao n bs) (q : ∀ (k : Nat) (o : Array Value) (t : Nat) (f : Nat × Nat), lo ≤ k → t = 45 ∨ t = 77 → w.heap[k]? = some (.cells o t f) → w'.heap[k]? = w.heap[k]?) : Bt lo w' ao n bs :=
 fun W hW => h W fun k o t f hl ht hk => (hW k o t f hl ht ((q k o t f hl ht hk).trans hk)).trans (q k o t f hl ht hk)
theorem Bt.of {lo : Nat} {w w' : World} {ao : Option Addr} {n : Nat} {bs : List Bv} (h : Bt lo w ao n bs) (G : Gr w w') : Bt lo w' ao n bs := h.to fun k o t f _ _ hk => G.block k (Array.getElem?_eq_some_iff.1 hk).1
theorem Bt.low {lo l0 : Nat} {w : World} {ao : Option Addr} {n : Nat} {bs : List Bv} (h : Bt lo w ao n bs) (hl : l0 ≤ lo) : Bt l0 w ao n bs := fun W q => h W fun k o t f hk => q k o t f (Nat.le_trans hl hk)
theorem bt_nil (lo : Nat) (w : World) (ao : Option Addr) : Bt lo w ao 0 [] := fun W _ => bs_nil W ao
theorem owns_tob {w w' : World} {base e n sz : Nat} {v : Value} {xs : List Value} (h : w.ownsRow base e sz v n xs) (q : ∀ (k : Nat) (o : Array Value) (f : Nat × Nat), base ≤ k → w.heap[k]? = some (.cells o e f) → w'.heap[k]? = w.heap[k]?) : w'.ownsRow base e sz v n xs := by
 obtain ⟨h1, h2⟩ := h
 refine ⟨h1, ?_⟩
 rcases h2 with h2 | ⟨g, cap, cur, hv, hb, hg, r⟩
 ·exact .inl h2
 ·exact .inr ⟨g, cap, cur, hv, hb, (q g _ _ hb hg).trans hg, r⟩
theorem own_bs {w : World} {lo base b1 g m cp : Nat} {xs : List Value} {bs : List Bv} (O : w.ownsRow base 45 2 (.slice (some ⟨g, 0, none⟩) m cp) m xs) (B : Bx w b1 bs xs) (ok : ∀ b ∈ bs, b.Ok) (hl : bs.length = m) (l0 : lo ≤ base) (l1 : lo ≤ b1) : Bt lo w (some ⟨g, 0, none⟩) m bs ∧ m ≤ cp := by
 refine ⟨fun W q => ?_, (Rw.open O).1⟩
 have B2 : Bx W b1 bs xs := ⟨B.len, fun j b hb => by
  obtain ⟨v, h1, h2, h3⟩ := B.at_ j b hb
  exact ⟨v, h1, h2, owns_tob h3 fun k o f hk e => q k o _ f (by omega) (.inr rfl) e⟩⟩
 have := bs_own (owns_tob O fun k o f hk e => q k o _ f (by omega) (.inl rfl) e) (B2.bw ok) 0 m (by omega)
 rw [List.drop_zero, Nat.zero_mul] at this
 exact this
theorem keep_ok {f t : Int} {bs : List Bv} (h : ∀ b ∈ bs, b.Ok) : ∀ b ∈ keepL f t bs, b.Ok := fun b hb => h b (List.mem_filter.1 hb).1
theorem StaleT_any {w : World} {ao : Option Addr} {n : Nat} (cap : Nat) {bs : List Bv} (B : Bs w ao n bs) (hn : n * 32 ≤ 140737488351232) (room pu sl : Int) {f t : Int} (hf : 0 ≤ f ∧ f < 4294967296) (ht : 0 ≤ t ∧ t < 4294967296) :
  Calls Tryz.prog 55 #[.agg #[.int .i64 room, .slice ao n cap, .int .i64 pu, .int .i64 sl], .agg #[.int .u32 f, .int .u32 t]] w fun e w' => ∃ a m c, e = .returned (.agg #[.int .i64 room, .slice a m c, .int .i64 pu, .int .i64 (wrap64 (sl + ((n : Int) - ((keepL f t bs).length : Int))))]) ∧ (Bt w.heap.size w' a m (keepL f t bs) ∧ m ≤ c) ∧ Gr w w' := by
 have CP : Hid (∀ W : World, Gr w W → Calls Tryz.prog 78 #[.agg #[.int .i64 room, .slice ao n cap, .int .i64 pu, .int .i64 sl]] W fun e w' => ∃ g cp xs, e = .returned (.agg #[.int .i64 room, .slice (some ⟨g, 0, none⟩) n cp, .int .i64 pu, .int .i64 sl]) ∧ w'.ownsRow W.heap.size 45 2 (.slice (some ⟨g, 0, none⟩) n cp) n xs ∧ Bx w' W.heap.size bs xs ∧ Gr W w') := fun W G => copyC_any cap (B.of G) hn room pu sl
 have HOk : Hid (∀ b ∈ bs, b.Ok) := B.ok
 have HL : Hid (bs.length = n) := B.len
 have TO : Hid (∀ W : World, Calls Tryz.prog 80 #[.agg #[.int .u32 f, .int .u32 t]] W fun e w' => ∃ B, e = .returned (.func (.func 101) #[] #[.pointer (some ⟨B, 0, none⟩)]) ∧ w'.heap[B]? = some (.cells #[.int .u32 f, .int .u32 t] 109 (0, 0)) ∧ Gr W w') := fun W => touched_any W f t
 obtain ⟨CV, HC⟩ : ∃ CV, Hid (CV = wrap64 (sl + ((n : Int) - ((keepL f t bs).length : Int)))) := ⟨_, rfl⟩
 rw [← HC.out]
 have HKl : Hid ((keepL f t bs).length ≤ n) := by have := keep_len f t bs bs.length; rw [List.take_length, B.len] at this; exact this
 have DF : Hid (∀ (W : World) (base b1 g cp K : Nat) (xs : List Value), W.ownsRow base 45 2 (.slice (some ⟨g, 0, none⟩) n cp) n xs → Bx W b1 bs xs → W.heap[K]? = some (.cells #[.int .u32 f, .int .u32 t] 109 (0, 0)) → Calls Tryz.prog 79 #[.slice (some ⟨g, 0, none⟩) n cp, .func (.func 101) #[] #[.pointer (some ⟨K, 0, none⟩)]] W fun e w' => ∃ m xs', e = .returned (.slice (some ⟨g, 0, none⟩) m cp) ∧ (keepL f t bs).length = m ∧ w'.ownsRow base 45 2 (.slice (some ⟨g, 0, none⟩) m cp) m xs' ∧ Bx w' b1 (keepL f t bs) xs' ∧ Ch g W w') := fun W base b1 g cp K xs O X hK => DelF_any O X HL.out (by omega) HOk.out hK ht.2
 clear B hf ht
 go_enter Tryz.func55, Tryz.ntmps55
 go_wp2_with fail
 refine (CP.out _ ((((Gr.refl w).alloc _).alloc _).alloc _)).mono ?_
 rintro e w1 ⟨g, cp, xs, rfl, O1, X1, G1⟩
 have T1 := three_of G1
 have HG1 : Hid (Gr w w1) := ((((Gr.refl w).alloc _).alloc _).alloc _).trans G1
 have hsz : (((w.alloc (.cells #[.int .i64 room, .slice ao n cap, .int .i64 pu, .int .i64 sl] 35)).alloc (.cells #[.int .u32 f, .int .u32 t] 109)).alloc (.cells #[.int .i64 0, .slice none 0 0, .int .i64 0, .int .i64 0] 35)).heap.size = w.heap.size + 1 + 1 + 1 := by simp
 rw [hsz] at O1 X1
 have HO1 : Hid (w1.ownsRow (w.heap.size + 1 + 1 + 1) 45 2 (.slice (some ⟨g, 0, none⟩) n cp) n xs) := O1
 have HX1 : Hid (Bx w1 (w.heap.size + 1 + 1 + 1) bs xs) := X1
 have HT1 : Hid (w1.heap[w.heap.size]? = some (.cells #[.int .i64 room, .slice ao n cap, .int .i64 pu, .int .i64 sl] 35 (0, 0)) ∧ w1.heap[w.heap.size + 1]? = some (.cells #[.int .u32 f, .int .u32 t] 109 (0, 0)) ∧ w1.heap[w.heap.size + 1 + 1]? = some (.cells #[.int .i64 0, .slice none 0 0, .int .i64 0, .int .i64 0] 35 (0, 0))) := T1
 clear O1 X1 T1 G1 CP hsz
 go_wp2_with fail
 refine atWd (fun W => (W.heap[w.heap.size]? = some (.cells #[.int .i64 room, .slice ao n cap, .int .i64 pu, .int .i64 sl] 35 (0, 0)) ∧ W.heap[w.heap.size + 1]? = some (.cells #[.int .u32 f, .int .u32 t] 109 (0, 0)) ∧ W.heap[w.heap.size + 1 + 1]? = some (.cells #[.int .i64 0, .slice none 0 0, .int .i64 0, .int .i64 0] 35 (0, 0))) ∧ (W.ownsRow (w.heap.size + 1 + 1 + 1) 45 2 (.slice (some ⟨g, 0, none⟩) n cp) n xs ∧ Bx W (w.heap.size + 1 + 1 + 1) bs xs) ∧ W.heap[w1.heap.size]? = some (.cells #[.int .i64 room, .slice (some ⟨g, 0, none⟩) n cp, .int .i64 pu, .int .i64 sl] 35 (0, 0)) ∧ Gr w W) ?_ ?_
 ·have G := (Gr.refl w1).alloc (.cells #[.int .i64 room, .slice (some ⟨g, 0, none⟩) n cp, .int .i64 pu, .int .i64 sl] 35)
  exact ⟨⟨up_h G HT1.out.1, up_h G HT1.out.2.1, up_h G HT1.out.2.2⟩, ⟨owns_gr HO1.out G, HX1.out.of G⟩, heap_alloc_new w1 _, HG1.out.alloc _⟩
 have ho : w.heap.size + 1 + 1 < w1.heap.size := (Array.getElem?_eq_some_iff.1 HT1.out.2.2).1
 clear HT1 HO1 HX1 HG1
 generalize w1.heap.size = o at *
 clear w1
 rintro W ⟨T0, OX0, R0, G0⟩
 have HT : Hid (W.heap[w.heap.size]? = some (.cells #[.int .i64 room, .slice ao n cap, .int .i64 pu, .int .i64 sl] 35 (0, 0)) ∧ W.heap[w.heap.size + 1]? = some (.cells #[.int .u32 f, .int .u32 t] 109 (0, 0)) ∧ W.heap[w.heap.size + 1 + 1]? = some (.cells #[.int .i64 0, .slice none 0 0, .int .i64 0, .int .i64 0] 35 (0, 0))) := T0
 have HOX : Hid (W.ownsRow (w.heap.size + 1 + 1 + 1) 45 2 (.slice (some ⟨g, 0, none⟩) n cp) n xs ∧ Bx W (w.heap.size + 1 + 1 + 1) bs xs) := OX0
 have HR : Hid (W.heap[o]? = some (.cells #[.int .i64 room, .slice (some ⟨g, 0, none⟩) n cp, .int .i64 pu, .int .i64 sl] 35 (0, 0))) := R0
 have HG : Hid (Gr w W) := G0
 have x1 : W.cell? ⟨o, 1, none⟩ = some (.slice (some ⟨g, 0, none⟩) n cp) := cell_of_row _ _ _ _ _ _ R0
 have q0 : W.cell? ⟨w.heap.size + 1, 0, none⟩ = some (.int .u32 f) := cell_of_row _ _ _ _ _ _ T0.2.1
 have q1 : W.cell? ⟨w.heap.size + 1, 1, none⟩ = some (.int .u32 t) := cell_of_row _ _ _ _ _ _ T0.2.1
 clear T0 OX0 R0 G0
 go_region_with (first
  | (go_at_call 80; refine (TO.out _).mono ?_; rintro e w2 ⟨K, rfl, hK, G2⟩; have HG2 : Hid (Gr W w2) := Gr.trans (by repeat (first | exact Gr.refl _ | refine Gr.drewN ?_ _ | refine Gr.drew ?_)) G2; have HK : Hid (w2.heap[K]? = some (.cells #[.int .u32 f, .int .u32 t] 109 (0, 0))) := hK; have x2 : w2.cell? ⟨o, 1, none⟩ = some (.slice (some ⟨g, 0, none⟩) n cp) := cell_of_row _ _ _ _ _ _ (up_h HG2.out HR.out); clear G2 hK)
  | (go_at_call 79; refine (DF.out _ _ _ g cp K xs (owns_gr HOX.out.1 HG2.out) (HOX.out.2.of HG2.out) HK.out).mono ?_; rintro e w3 ⟨m, ys, rfl, hm, O3, X3, Q3⟩; have H3 : Hid (((w3.heap[w.heap.size]? = some (.cells #[.int .i64 room, .slice ao n cap, .int .i64 pu, .int .i64 sl] 35 (0, 0)) ∧ w3.heap[w.heap.size + 1]? = some (.cells #[.int .u32 f, .int .u32 t] 109 (0, 0)) ∧ w3.heap[w.heap.size + 1 + 1]? = some (.cells #[.int .i64 0, .slice none 0 0, .int .i64 0, .int .i64 0] 35 (0, 0))) ∧ (w3.ownsRow (w.heap.size + 1 + 1 + 1) 45 2 (.slice (some ⟨g, 0, none⟩) m cp) m ys ∧ Bx w3 (w.heap.size + 1 + 1 + 1) (keepL f t bs) ys) ∧ w3.heap[o]? = some (.cells #[.int .i64 room, .slice (some ⟨g, 0, none⟩) n cp, .int .i64 pu, .int .i64 sl] 35 (0, 0))) ∧ Gr w w3 ∧ (keepL f t bs).length = m) := (⟨⟨⟨row_keep (owns_gr HOX.out.1 HG2.out) Q3 (up_h HG2.out HT.out.1) (by decide), row_keep (owns_gr HOX.out.1 HG2.out) Q3 (up_h HG2.out HT.out.2.1) (by decide), row_keep (owns_gr HOX.out.1 HG2.out) Q3 (up_h HG2.out HT.out.2.2) (by decide)⟩, ⟨O3, X3⟩, row_keep (owns_gr HOX.out.1 HG2.out) Q3 (up_h HG2.out HR.out) (by decide)⟩, ch_gr (HG.out.trans HG2.out) (by have := (HOX.out.1.lt g rfl).1; omega) Q3, hm⟩); have y1 : w3.cell? ⟨o, 1, none⟩ = some (.slice (some ⟨g, 0, none⟩) n cp) := cell_of_row _ _ _ _ _ _ H3.out.1.2.2; have yf : w3.frozen? ⟨o, 1, none⟩ = false := frozen_of_row _ _ _ _ _ H3.out.1.2.2; clear hm O3 X3 Q3))
 all_goals
  refine atWd (fun W => (W.heap[w.heap.size]? = some (.cells #[.int .i64 room, .slice ao n cap, .int .i64 pu, .int .i64 sl] 35 (0, 0)) ∧ W.heap[w.heap.size + 1]? = some (.cells #[.int .u32 f, .int .u32 t] 109 (0, 0)) ∧ W.heap[w.heap.size + 1 + 1]? = some (.cells #[.int .i64 0, .slice none 0 0, .int .i64 0, .int .i64 0] 35 (0, 0))) ∧ (W.ownsRow (w.heap.size + 1 + 1 + 1) 45 2 (.slice (some ⟨g, 0, none⟩) m cp) m ys ∧ Bx W (w.heap.size + 1 + 1 + 1) (keepL f t bs) ys) ∧ W.heap[o]? = some (.cells #[.int .i64 room, .slice (some ⟨g, 0, none⟩) m cp, .int .i64 pu, .int .i64 sl] 35 (0, 0)) ∧ Gr w W) ?_ ?_
  ·obtain ⟨⟨⟨t0, t1, t2⟩, ⟨O3, X3⟩, R3⟩, G3, _⟩ := H3.out
   refine ⟨⟨?_, ?_, ?_⟩, ⟨?_, ?_⟩, ?_, ?_⟩
   ·rw [heap_setCell_other _ _ _ _ (by show w.heap.size ≠ o; omega)]; exact t0
   ·rw [heap_setCell_other _ _ _ _ (by show w.heap.size + 1 ≠ o; omega)]; exact t1
   ·rw [heap_setCell_other _ _ _ _ (by show w.heap.size + 1 + 1 ≠ o; omega)]; exact t2
   ·exact owns_to O3 fun q c r hq => heap_setCell_other _ _ _ _ (by exact ne_of_types hq R3 (by decide))
   ·exact X3.to fun q c r hq => heap_setCell_other _ _ _ _ (by exact ne_of_types hq R3 (by decide))
   ·rw [heap_setCell_same _ _ _ _ _ _ R3]; rfl
   ·exact G3.setCell (by show w.heap.size ≤ o; omega) _
  have HM : Hid ((keepL f t bs).length = m) := H3.out.2.2
  clear y1 yf H3 HG2 HK HT HOX HR HG x2
  clear w3 w2 x1 q0 q1
  clear W
  rintro W ⟨T0, OX0, R0, G0⟩
  have HT : Hid (W.heap[w.heap.size]? = some (.cells #[.int .i64 room, .slice ao n cap, .int .i64 pu, .int .i64 sl] 35 (0, 0)) ∧ W.heap[w.heap.size + 1]? = some (.cells #[.int .u32 f, .int .u32 t] 109 (0, 0)) ∧ W.heap[w.heap.size + 1 + 1]? = some (.cells #[.int .i64 0, .slice none 0 0, .int .i64 0, .int .i64 0] 35 (0, 0))) := T0
  have HOX : Hid (W.ownsRow (w.heap.size + 1 + 1 + 1) 45 2 (.slice (some ⟨g, 0, none⟩) m cp) m ys ∧ Bx W (w.heap.size + 1 + 1 + 1) (keepL f t bs) ys) := OX0
  have HR : Hid (W.heap[o]? = some (.cells #[.int .i64 room, .slice (some ⟨g, 0, none⟩) m cp, .int .i64 pu, .int .i64 sl] 35 (0, 0))) := R0
  have HG : Hid (Gr w W) := G0
  have c1 : W.cell? ⟨w.heap.size, 1, none⟩ = some (.slice ao n cap) := cell_of_row _ _ _ _ _ _ T0.1
  have x0 : W.cell? ⟨o, 0, none⟩ = some (.int .i64 room) := cell_of_row _ _ _ _ _ _ R0
  have x1 : W.cell? ⟨o, 1, none⟩ = some (.slice (some ⟨g, 0, none⟩) m cp) := cell_of_row _ _ _ _ _ _ R0
  have x2 : W.cell? ⟨o, 2, none⟩ = some (.int .i64 pu) := cell_of_row _ _ _ _ _ _ R0
  have x3 : W.cell? ⟨o, 3, none⟩ = some (.int .i64 sl) := cell_of_row _ _ _ _ _ _ R0
  have xf : W.frozen? ⟨o, 3, none⟩ = false := frozen_of_row _ _ _ _ _ R0
  have z0 : W.cell? ⟨w.heap.size + 1 + 1, 0, none⟩ = some (.int .i64 0) := cell_of_row _ _ _ _ _ _ T0.2.2
  have z1 : W.cell? ⟨w.heap.size + 1 + 1, 1, none⟩ = some (.slice none 0 0) := cell_of_row _ _ _ _ _ _ T0.2.2
  have z2 : W.cell? ⟨w.heap.size + 1 + 1, 2, none⟩ = some (.int .i64 0) := cell_of_row _ _ _ _ _ _ T0.2.2
  have z3 : W.cell? ⟨w.heap.size + 1 + 1, 3, none⟩ = some (.int .i64 0) := cell_of_row _ _ _ _ _ _ T0.2.2
  have zf : ∀ j, W.frozen? ⟨w.heap.size + 1 + 1, j, none⟩ = false := fun j => frozen_of_row _ _ _ _ _ T0.2.2
  have hne : ¬ w.heap.size + 1 + 1 = o := by omega
  have hne2 : ¬ o = w.heap.size + 1 + 1 := by omega
  have hmn : m ≤ n := by have := HKl.out; rw [HM.out] at this; exact this
  clear T0 OX0 R0 G0 TO DF
  go_wp2_with fail
  generalize hS : wrap64 (sl + ((n : Int) - (m : Int))) = SV at *
  have HS : Hid (wrap64 (sl + ((n : Int) - (m : Int))) = SV) := hS
  clear hS
  have e1 : (W.setCell ⟨o, 3, none⟩ (.int .i64 SV)).heap[w.heap.size + 1 + 1]? = some (.cells #[.int .i64 0, .slice none 0 0, .int .i64 0, .int .i64 0] 35 (0, 0)) := (heap_setCell_other _ _ _ _ (by exact hne)).trans HT.out.2.2
  have hk : ∀ (k : Nat) (c : Array Value) (r : Nat) (z : Nat × Nat), W.heap[k]? = some (.cells c r z) → r ≠ 35 → (((((W.setCell ⟨o, 3, none⟩ (.int .i64 SV)).setCell ⟨w.heap.size + 1 + 1, 0, none⟩ (.int .i64 room)).setCell ⟨w.heap.size + 1 + 1, 1, none⟩ (.slice (some ⟨g, 0, none⟩) m cp)).setCell ⟨w.heap.size + 1 + 1, 2, none⟩ (.int .i64 pu)).setCell ⟨w.heap.size + 1 + 1, 3, none⟩ (.int .i64 SV)).heap[k]? = W.heap[k]? := fun k c r z hq hr => by
   rw [four_h _ _ _ _ _ _ (ne_of_types hq HT.out.2.2 hr), heap_setCell_other _ _ _ _ (by exact ne_of_types hq HR.out hr)]
  refine bodyPost_ret (v := .agg #[.int .i64 room, .slice (some ⟨g, 0, none⟩) m cp, .int .i64 pu, .int .i64 SV]) (results_cell_row Tryz.results55 _ _ _ _ _ (0, 0) _ rfl (four_set e1 _ _ _ _) Tryz.underlying35 rfl iCa) rfl ⟨some ⟨g, 0, none⟩, m, cp, by rw [HC.out, HM.out, HS.out], ?_, ?_⟩
  ·exact own_bs (owns_to HOX.out.1 fun q c r hq => hk q c _ r hq (by decide)) (HOX.out.2.to fun q c r hq => hk q c _ r hq (by decide)) (keep_ok HOk.out) HM.out (by omega) (by omega)
  ·have q1 : w.heap.size ≤ w.heap.size + 1 + 1 := by omega
   exact ((((HG.out.setCell (by show w.heap.size ≤ o; omega) _).setCell (by exact q1) _).setCell (by exact q1) _).setCell (by exact q1) _).setCell (by exact q1) _
end Go.Proofs.YtchllaeembmioaaGreatDoor.Kc
namespace Go.Proofs.YtchllaeembmioaaGreatDoor.En
open Go.ChangeShapes Go.WideShapes Go.ChangeAt Go.RowKit Mm Hh Hc Mc

def rsE (room : Int) (a : Option Addr) (n cap : Nat) (pu sl : Int) (mb : Nat) : List Value := [.int .i64 room, .slice a n cap, .int .i64 pu, .int .i64 sl, .map (some mb)]
structure Ew (lo : Nat) (w : World) (base g : Nat) (room : Int) (M : Value) (gh hc : Nat) (O : Value) (a : Option Addr) (n cap mb mn : Nat) (D : DataW Value) (s : Sh) (L : List Kc.Bv) (pu sl : Int) : Prop where
 bw : Bw 66 (rsE room a n cap pu sl mb) w base g M gh hc O s
 bt : Kc.Bt lo w a n L
 cap : n ≤ cap
 bm : base ≤ mb
 map : w.ownsMap Tryz.prog 42 Rh mb mn D
 code : ∀ b ∈ L, ∃ ca cn cc, (∀ z, D.atKey (.int .u32 b.pc) z = .held (.slice ca cn cc)) ∧ Ts.Ct w ca cn (Ts.codeV b.pc b.is 0)
def set4 (w : World) (g : Nat) (r : Int) (a' : Option Addr) (n' cap' : Nat) (pu' sl' : Int) : World := (((w.setCell ⟨g, 4, none⟩ (.int .i64 r)).setCell ⟨g, 5, none⟩ (.slice a' n' cap')).setCell ⟨g, 6, none⟩ (.int .i64 pu')).setCell ⟨g, 7, none⟩ (.int .i64 sl')
def Ev (lo : Nat) (w : World) (base g : Nat) (room : Int) (s : Sh) (L : List Kc.Bv) (pu sl : Int) (mn : Nat) : Prop := ∃ M gh hc O a n cap mb D, Ew lo w base g room M gh hc O a n cap mb mn D s L pu sl
structure Fm (base : Nat) (w w' : World) : Prop where
 below : Below base w w'
 keep : ∀ (k : Nat) (q : Array Value) (t : Nat) (f : Nat × Nat), w.heap[k]? = some (.cells q t f) → t ≠ 66 → w'.heap[k]? = w.heap[k]?
theorem Fm.refl (base : Nat) (w : World) : Fm base w w := ⟨Below.refl _ _, fun _ _ _ _ _ _ => rfl⟩
theorem Fm.trans {base : Nat} {a b c : World} (h : Fm base a b) (k : Fm base b c) : Fm base a c := ⟨h.below.trans k.below, fun i q t f e t1 => (k.keep i q t f ((h.keep i q t f e t1).trans e) t1).trans (h.keep i q t f e t1)⟩
theorem Fm.ofGr {base : Nat} {w w' : World} (G : Gr w w') (hb : base ≤ w.heap.size) : Fm base w w' := ⟨Below.mono G hb, fun i q t f e _ => G.block i (Array.getElem?_eq_some_iff.1 e).1⟩
theorem Fm.row {base : Nat} {w w' : World} (h : Fm base w w') {k : Nat} {q : Array Value} {t : Nat} {f : Nat × Nat} (e : w.heap[k]? = some (.cells q t f)) (t1 : t ≠ 66) : w'.heap[k]? = some (.cells q t f) := (h.keep k q t f e t1).trans e
theorem Fm.set {base : Nat} {a w : World} {g : Nat} {Y : Array Value} {f : Nat × Nat} (h : Fm base a w) (hy : w.heap[g]? = some (.cells Y 66 f)) (hg : base ≤ g) (i : Nat) (v : Value) : Fm base a (w.setCell ⟨g, i, none⟩ v) := ⟨Below.setCell h.below (by exact hg) _, fun k q t f' e t1 => by
 have e2 := h.row e t1
 rw [heap_setCell_other _ _ _ _ (by exact ne_of_types e2 hy t1)]
 exact h.keep k q t f' e t1⟩
theorem Fm.setRow {base k : Nat} {w w' : World} (h : Fm base w w') (hb : base ≤ k) (hk : w.heap.size ≤ k) (cs : Array Value) : Fm base w (w'.setRow k cs) := ⟨below_setRow h.below hb cs, fun i q t f e t1 => by
 have := (Array.getElem?_eq_some_iff.1 e).1
 rw [setRow_other _ _ _ _ (by omega)]
 exact h.keep i q t f e t1⟩
section
variable {lo : Nat} {w w' : World} {base g gh hc : Nat} {room : Int} {M O : Value} {a : Option Addr} {n cap mb mn : Nat} {D : DataW Value} {s : Sh} {L : List Kc.Bv} {pu sl : Int}
theorem Bw.to {ty : Nat} {rs : List Value} (B : Bw ty rs w base g M gh hc O s) (q : ∀ (k : Nat) (o : Array Value) (t : Nat) (f : Nat × Nat), w.heap[k]? = some (.cells o t f) → w'.heap[k]? = w.heap[k]?) : Bw ty rs w' base g M gh hc O s :=
 ⟨B.t1, B.t2, B.t3, B.bg, (q _ _ _ _ B.blk).trans B.blk, B.mem.to fun k o f e => q k o _ f e, B.bh, B.row.to fun k o f e => q k o _ f e, owns_to B.out fun k o f e => q k o _ f e⟩
theorem owns_map_to (h : w.ownsMap Tryz.prog 42 Rh mb mn D) (e : w'.heap[mb]? = w.heap[mb]?) : w'.ownsMap Tryz.prog 42 Rh mb mn D := by
 obtain ⟨es, clock, hb, r⟩ := h
 exact ⟨es, clock, e.trans hb, r⟩
theorem Ew.of (E : Ew lo w base g room M gh hc O a n cap mb mn D s L pu sl) (G : Gr w w') : Ew lo w' base g room M gh hc O a n cap mb mn D s L pu sl :=
 ⟨E.bw.of G, E.bt.of G, E.cap, E.bm, owns_map_to E.map (G.block _ E.map.lt), fun b hb => by
  obtain ⟨ca, cn, cc, h1, h2⟩ := E.code b hb
  exact ⟨ca, cn, cc, h1, h2.of G⟩⟩
theorem Ev.of (E : Ev lo w base g room s L pu sl mn) (G : Gr w w') : Ev lo w' base g room s L pu sl mn := by
 obtain ⟨M, gh, hc, O, a, n, cap, mb, D, E⟩ := E
 exact ⟨M, gh, hc, O, a, n, cap, mb, D, E.of G⟩
theorem Ew.base_le (E : Ew lo w base g room M gh hc O a n cap mb mn D s L pu sl) : base ≤ w.heap.size := E.bw.base_le
theorem map_st (h : w.ownsMap Tryz.prog 42 Rh mb mn D) (q : w.grownBy w' (some mb)) : ∀ (k : Nat) (o : Array Value) (t : Nat) (f : Nat × Nat), w.heap[k]? = some (.cells o t f) → w'.heap[k]? = w.heap[k]? := fun k o t f e => by
 refine q.block k (Array.getElem?_eq_some_iff.1 e).1 (fun hk => ?_)
 injection hk with hk
 subst hk
 obtain ⟨es, clock, hb, _⟩ := h
 rw [hb] at e
 cases e
theorem bt_fe {W : World} (B : Kc.Bt lo w a n L) (F : Fe 66 base w W) : Kc.Bt lo W a n L := B.to fun k o t f _ ht e => F.cells e (by rcases ht with rfl | rfl <;> decide) (by rcases ht with rfl | rfl <;> decide) (by rcases ht with rfl | rfl <;> decide)
theorem bt_fm {W : World} (B : Kc.Bt lo w a n L) (F : Fm base w W) : Kc.Bt lo W a n L := B.to fun k o t f _ ht e => F.keep k o t f e (by rcases ht with rfl | rfl <;> decide)
theorem ct_fm {W : World} {ca : Option Addr} {cn : Nat} {cd : List Mi.Mv} (C : Ts.Ct w ca cn cd) (F : Fm base w W) : Ts.Ct W ca cn cd := C.to fun k o f e => F.keep k o _ f e (by decide)
theorem ct_fe {W : World} {ca : Option Addr} {cn : Nat} {cd : List Mi.Mv} (C : Ts.Ct w ca cn cd) (F : Fe 66 base w W) : Ts.Ct W ca cn cd := C.to fun k o f e => F.cells e (by decide) (by decide) (by decide)
theorem Ew.turn (E : Ew lo w base g room M gh hc O a n cap mb mn D s L pu sl) (q : w.grownBy w' (some mb)) {mn' : Nat} {D' : DataW Value} (h : w'.ownsMap Tryz.prog 42 Rh mb mn' D') (hc' : ∀ b ∈ L, ∀ z, D'.atKey (.int .u32 b.pc) z = D.atKey (.int .u32 b.pc) z) : Ew lo w' base g room M gh hc O a n cap mb mn' D' s L pu sl ∧ Fm base w w' := by
 have st := map_st E.map q
 refine ⟨⟨Bw.to E.bw st, E.bt.to fun k o t f _ _ e => st k o t f e, E.cap, E.bm, h, fun b hb => ?_⟩, ⟨(Below.refl base w).grown q E.base_le (fun k hk => by injection hk with hk; subst hk; exact E.bm), fun k o t f e _ => st k o t f e⟩⟩
 obtain ⟨ca, cn, cc, h1, h2⟩ := E.code b hb
 exact ⟨ca, cn, cc, fun z => (hc' b hb z).trans (h1 z), h2.to fun k o f e => st k o _ f e⟩
theorem Ew.take (E : Ew lo w base g room M gh hc O a n cap mb mn D s L pu sl) {s' : Sh} (B : Bd 66 (rsE room a n cap pu sl mb) w' base g s') (F : Fe 66 base w w') : Ev lo w' base g room s' L pu sl mn := by
 obtain ⟨M', gh', hc', O', B⟩ := B
 refine ⟨M', gh', hc', O', a, n, cap, mb, D, B, bt_fe E.bt F, E.cap, E.bm, ?_, fun b hb => ?_⟩
 ·obtain ⟨es, clock, hb, r⟩ := E.map
  exact ⟨es, clock, F.keep mb _ hb (fun _ _ h => by cases h) (fun _ _ h => by cases h) (fun _ _ h => by cases h), r⟩
 ·obtain ⟨ca, cn, cc, h1, h2⟩ := E.code b hb
  exact ⟨ca, cn, cc, h1, ct_fe h2 F⟩
theorem Ew.mid (E : Ew lo w base g room M gh hc O a n cap mb mn D s L pu sl) (r : Int) (a' : Option Addr) (n' cap' : Nat) (pu' sl' : Int) :
  Bw 66 (rsE r a' n' cap' pu' sl' mb) (set4 w g r a' n' cap' pu' sl') base g M gh hc O s ∧ Fm base w (set4 w g r a' n' cap' pu' sl') ∧ (set4 w g r a' n' cap' pu' sl').ownsMap Tryz.prog 42 Rh mb mn D := by
 have B0 := E.bw.setR 0 (.int .i64 r)
 have B1 := B0.setR 1 (.slice a' n' cap')
 have B2 := B1.setR 2 (.int .i64 pu')
 have B3 := B2.setR 3 (.int .i64 sl')
 have F : Fe 66 base w (set4 w g r a' n' cap' pu' sl') :=
  ((((Fe.refl base w).setCell E.bw.blk E.bw.bg _ _).setCell B0.blk E.bw.bg _ _).setCell B1.blk E.bw.bg _ _).setCell B2.blk E.bw.bg _ _
 refine ⟨B3, ((((Fm.refl base w).set E.bw.blk E.bw.bg _ _).set B0.blk E.bw.bg _ _).set B1.blk E.bw.bg _ _).set B2.blk E.bw.bg _ _, ?_⟩
 obtain ⟨es, clock, hb, r⟩ := E.map
 exact ⟨es, clock, F.keep mb _ hb (fun _ _ h => by cases h) (fun _ _ h => by cases h) (fun _ _ h => by cases h), r⟩
theorem Ew.set (E : Ew lo w base g room M gh hc O a n cap mb mn D s L pu sl) {lo' : Nat} {a' : Option Addr} {n' cap' : Nat} {L' : List Kc.Bv} (pu' sl' : Int) (B : Kc.Bt lo' w a' n' L') (hcap : n' ≤ cap') (hc' : ∀ b ∈ L', b ∈ L) :
  Ew lo' (set4 w g room a' n' cap' pu' sl') base g room M gh hc O a' n' cap' mb mn D s L' pu' sl' ∧ Fm base w (set4 w g room a' n' cap' pu' sl') := by
 obtain ⟨B3, F, m⟩ := E.mid room a' n' cap' pu' sl'
 refine ⟨⟨B3, bt_fm B F, hcap, E.bm, m, fun b hb => ?_⟩, F⟩
 obtain ⟨ca, cn, cc, h1, h2⟩ := E.code b (hc' b hb)
 exact ⟨ca, cn, cc, h1, ct_fm h2 F⟩
theorem Ew.put (E : Ew lo w base g room M gh hc O a n cap mb mn D s L pu sl) {lo' : Nat} {a' : Option Addr} {n' cap' : Nat} {L' : List Kc.Bv} {pu' sl' : Int} (B : Kc.Bt lo' w a' n' L') (hcap : n' ≤ cap') {W : World} (q : (set4 w g room a' n' cap' pu' sl').grownBy W (some mb)) {mn' : Nat} {D' : DataW Value} (h : W.ownsMap Tryz.prog 42 Rh mb mn' D')
  (hc' : ∀ b ∈ L', ∃ ca cn cc, (∀ z, D'.atKey (.int .u32 b.pc) z = .held (.slice ca cn cc)) ∧ Ts.Ct w ca cn (Ts.codeV b.pc b.is 0)) : Ew lo' W base g room M gh hc O a' n' cap' mb mn' D' s L' pu' sl' ∧ Fm base w W := by
 obtain ⟨B3, F, m⟩ := E.mid room a' n' cap' pu' sl'
 have st := map_st m q
 refine ⟨⟨Bw.to B3 st, (bt_fm B F).to fun k o t f _ _ e => st k o t f e, hcap, E.bm, h, fun b hb => ?_⟩, F.trans ⟨(Below.refl base _).grown q B3.base_le (fun k hk => by injection hk with hk; subst hk; exact E.bm), fun k o t f e _ => st k o t f e⟩⟩
 obtain ⟨ca, cn, cc, h1, h2⟩ := hc' b hb
 exact ⟨ca, cn, cc, h1, (ct_fm h2 F).to fun k o f e => st k o _ f e⟩
theorem Ew.row (E : Ew lo w base g room M gh hc O a n cap mb mn D s L pu sl) {z : Nat} {Z : Array Value} (hz : w.heap[z]? = some (.cells Z 45 (0, 0))) (hl : z < lo) (cs : Array Value) : Ew lo (w.setRow z cs) base g room M gh hc O a n cap mb mn D s L pu sl := by
 have st : ∀ (k : Nat) (o : Array Value) (t : Nat) (f : Nat × Nat), t ≠ 45 → w.heap[k]? = some (.cells o t f) → (w.setRow z cs).heap[k]? = w.heap[k]? := fun k o t f ht e => setRow_other _ _ _ _ (ne_of_types e hz ht)
 refine ⟨⟨E.bw.t1, E.bw.t2, E.bw.t3, E.bw.bg, (st _ _ _ _ (by decide) E.bw.blk).trans E.bw.blk, E.bw.mem.to fun k o f e => st k o _ f (by decide) e, E.bw.bh, E.bw.row.to fun k o f e => st k o _ f (by decide) e, owns_to E.bw.out fun k o f e => st k o _ f (by decide) e⟩, E.bt.to fun k o t f hk _ e => setRow_other _ _ _ _ (by omega), E.cap, E.bm, owns_map_to E.map (setRow_other _ _ _ _ (fun e => ?_)), fun b hb => ?_⟩
 ·obtain ⟨es, clock, hb, _⟩ := E.map
  rw [e, hz] at hb
  cases hb
 ·obtain ⟨ca, cn, cc, h1, h2⟩ := E.code b hb
  exact ⟨ca, cn, cc, h1, h2.to fun k o f e => st k o _ f (by decide) e⟩
theorem Ev.row (E : Ev lo w base g room s L pu sl mn) {z : Nat} {Z : Array Value} (hz : w.heap[z]? = some (.cells Z 45 (0, 0))) (hl : z < lo) (cs : Array Value) : Ev lo (w.setRow z cs) base g room s L pu sl mn := by
 obtain ⟨M, gh, hc, O, a, n, cap, mb, D, E⟩ := E
 exact ⟨M, gh, hc, O, a, n, cap, mb, D, E.row hz hl cs⟩
theorem Ew.low (E : Ew lo w base g room M gh hc O a n cap mb mn D s L pu sl) : Ew 0 w base g room M gh hc O a n cap mb mn D s L pu sl := ⟨E.bw, E.bt.low (Nat.zero_le _), E.cap, E.bm, E.map, E.code⟩
theorem Ev.low (E : Ev lo w base g room s L pu sl mn) : Ev 0 w base g room s L pu sl mn := by
 obtain ⟨M, gh, hc, O, a, n, cap, mb, D, E⟩ := E
 exact ⟨M, gh, hc, O, a, n, cap, mb, D, E.low⟩
theorem Ew.c4 (E : Ew lo w base g room M gh hc O a n cap mb mn D s L pu sl) : w.cell? ⟨g, 4, none⟩ = some (.int .i64 room) := E.bw.rest 0
theorem Ew.c5 (E : Ew lo w base g room M gh hc O a n cap mb mn D s L pu sl) : w.cell? ⟨g, 5, none⟩ = some (.slice a n cap) := E.bw.rest 1
theorem Ew.c6 (E : Ew lo w base g room M gh hc O a n cap mb mn D s L pu sl) : w.cell? ⟨g, 6, none⟩ = some (.int .i64 pu) := E.bw.rest 2
theorem Ew.c7 (E : Ew lo w base g room M gh hc O a n cap mb mn D s L pu sl) : w.cell? ⟨g, 7, none⟩ = some (.int .i64 sl) := E.bw.rest 3
theorem Ew.c8 (E : Ew lo w base g room M gh hc O a n cap mb mn D s L pu sl) : w.cell? ⟨g, 8, none⟩ = some (.map (some mb)) := E.bw.rest 4
theorem del_other {pd : Lit → DataW Value → Bool} {D : DataW Value} {kl : Lit} (h : ∀ d, pd kl d = false) (z : DataW Value) : (Lib.deleteFuncD pd D).atKey kl z = D.atKey kl z := by
 cases D with
 | map es =>
  simp only [Lib.deleteFuncD, DataW.atKey]
  rw [Maps.find_filter_keep fun p hp => by rw [WideAt.sameKey_eq hp, h]; rfl]
 | _ => rfl
theorem forget_any (E : Ew lo w base g room M gh hc O a n cap mb mn D s L pu sl) (hn : n ≤ 140737488351232) :
  Calls Tryz.prog 56 #[.pointer (some ⟨g, 0, none⟩)] w fun e w' => e = .returned (.tuple #[]) ∧ (∃ D', Ew lo w' base g room M gh hc O a n cap mb mn D' s L pu sl) ∧ Fm base w w' := by
 have HM : Hid (∀ (W : World) (C : Nat), Gr w W → W.cell? ⟨C, 0, none⟩ = some (.pointer (some ⟨g, 0, none⟩)) → Calls Tryz.prog 81 #[.map (some mb), .func (.func 82) #[] #[.pointer (some ⟨C, 0, none⟩)]] W fun e w' => e = .returned (.tuple #[]) ∧ (∃ D', Ew lo w' base g room M gh hc O a n cap mb mn D' s L pu sl) ∧ Fm base w w') := fun W C G kc => by
  have EW := E.of G
  refine (mdel_any (fun kl _ => match kl with | .int _ x => !decide (0 ≤ Kc.place x L 0) | _ => true) C EW.map ?_).mono ?_
  ·intro V x v q h0 h1
   have st := map_st EW.map q
   have ck : V.cell? ⟨C, 0, none⟩ = some (.pointer (some ⟨g, 0, none⟩)) := by
    have hne : some C ≠ some mb := fun hk => by
     injection hk with hk
     subst hk
     obtain ⟨es, clock, hb, _⟩ := EW.map
     simp [World.cell?, hb] at kc
    exact (World.cell?_of_block (q.block C (World.block_lt_of_cell? W _ kc) hne)).trans kc
   have c5 : V.cell? ⟨g, 5, none⟩ = some (.slice a n cap) := (World.cell?_of_block (st _ _ _ _ EW.bw.blk)).trans EW.c5
   exact fgt1_any ck c5 (EW.bt.to fun k o t f _ _ e => st k o t f e).bs hn x v
  ·rintro e w' ⟨rfl, hm, q⟩
   have := EW.turn q hm (fun b hb z => del_other (fun d => by
    have : 0 ≤ Kc.place b.pc L 0 := by
     obtain ⟨i, hi⟩ := List.mem_iff_getElem?.1 hb
     exact pl_in hi
    simp [this]) z)
   exact ⟨rfl, ⟨_, this.1⟩, (Fm.ofGr G E.base_le).trans this.2⟩
 have k8 := E.c8
 have hg := E.bw.lt
 clear E hn
 go_enter Tryz.func56, Tryz.ntmps56
 go_wp2_with fail
 refine (HM.out _ w.heap.size ((Gr.refl _).alloc _) (by simp)).mono ?_
 rintro e w1 ⟨rfl, h1, h2⟩
 have H1 : Hid (∃ D', Ew lo w1 base g room M gh hc O a n cap mb mn D' s L pu sl) := h1
 have H2 : Hid (Fm base w w1) := h2
 clear h1 h2 HM k8
 go_wp2_with fail
 go_end0
 exact ⟨rfl, H1.out, H2.out⟩
end
end Go.Proofs.YtchllaeembmioaaGreatDoor.En
