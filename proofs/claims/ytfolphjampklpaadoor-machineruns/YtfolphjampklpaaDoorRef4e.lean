/-
  The frame of ferrybridgeref4.Step: what it answers, as data ('Dd', 'RStep'); the blocks that it makes ('Bs'); the two traps ahead of the instruction.
-/
import Derived.Test.YtfolphjampklpaaDoorRef4d
import Derived.Test.YtfolphjampklpaaDoorHk
import Derived.Test.YtfolphjampklpaaDoorWalks3
namespace Go.Proofs.YtfolphjampklpaaDoor.Hr
open Go.ChangeShapes Go.WideShapes Go.ChangeAt Go.RowKit Mm Hh
set_option linter.unusedVariables false
set_option linter.unusedSimpArgs false

/-- What came out, as a slice. -/
def OutV (w : World) (v : Value) (os : List Int) : Prop := (v = .slice none 0 0 ∧ os = []) ∨ ∃ k x, v = .slice (some ⟨k, 0, none⟩) 1 1 ∧ os = [x] ∧ w.heap[k]? = some (.cells #[.int .u32 x] 22 (0, 0))
/-- Where was stored. -/
def StoV (d : Dv) (ss : List (Int × Int)) : Prop := (ss = [] ∧ d.fro = 0 ∧ d.many = 0) ∨ ss = [(d.fro, d.many)]
/-- In world w, d is the step S; its memory is v0, or lies in a block from b0 on. -/
structure Dd (w : World) (v0 : Value) (b0 : Nat) (d : Dv) (S : Sv) : Prop where
  ok : d.Ok
  h : d.h = S.h
  m : ∃ ao n cap, d.m = .slice ao n cap ∧ Mem w ao n S.m ∧ (d.m = v0 ∨ ∀ ad, ao = some ad → b0 ≤ ad.block)
  out : OutV w d.out S.out
  sto : StoV d S.sto
def RStep (h : Hv) (ao : Option Addr) (n cap : Nat) (w : World) (S : Sv) : Prop :=
  Calls Tryd.prog 17 #[.agg (hA h), .slice ao n cap] w fun e w' => ∃ d, e = .returned (.agg (dA d)) ∧ Dd w' (.slice ao n cap) w.heap.size d S ∧ Gr w w'
/-- The blocks of a call: the hart, room for the result, what was done, the instruction. -/
structure Bt (w : World) (B : Nat) (H Z D : Array Value) : Prop where
  h : w.heap[B]? = some (.cells H 34 (0, 0))
  z : w.heap[B + 1]? = some (.cells Z 41 (0, 0))
  d : w.heap[B + 1 + 1]? = some (.cells D 41 (0, 0))
structure Bs (w : World) (B J : Nat) (H Z D I : Array Value) : Prop where
  t : Bt w B H Z D
  i : w.heap[J]? = some (.cells I 24 (0, 0))
theorem Bt.of {w w' : World} {B : Nat} {H Z D : Array Value} (h : Bt w B H Z D) (g : Gr w w') : Bt w' B H Z D := ⟨heap_of_gr g h.h, heap_of_gr g h.z, heap_of_gr g h.d⟩
theorem Bs.of {w w' : World} {B J : Nat} {H Z D I : Array Value} (h : Bs w B J H Z D I) (g : Gr w w') : Bs w' B J H Z D I := ⟨h.t.of g, heap_of_gr g h.i⟩
theorem Bt.row {w : World} {B : Nat} {H Z D : Array Value} (h : Bt w B H Z D) (E : Array Value) : Bt (w.setRow (B + 1 + 1) E) B H Z E :=
  ⟨by rw [setRow_other _ _ _ _ (by omega)]; exact h.h, by rw [setRow_other _ _ _ _ (by omega)]; exact h.z, setRow_heap _ _ _ _ _ (0, 0) h.d⟩
theorem Bt.lt {w : World} {B : Nat} {H Z D : Array Value} (h : Bt w B H Z D) : B + 1 + 1 < w.heap.size := (Array.getElem?_eq_some_iff.1 h.d).1
theorem Bs.ne {w : World} {B J : Nat} {H Z D I : Array Value} (h : Bs w B J H Z D I) : J ≠ B + 1 + 1 := Hc.ne_of_types h.i h.t.d (by decide)
theorem Bs.row {w : World} {B J : Nat} {H Z D I : Array Value} (h : Bs w B J H Z D I) (E : Array Value) : Bs (w.setRow (B + 1 + 1) E) B J H Z E I :=
  ⟨h.t.row E, by rw [setRow_other _ _ _ _ h.ne]; exact h.i⟩
theorem Bt.set {w : World} {B : Nat} {H Z D : Array Value} (h : Bt w B H Z D) (j : Nat) (v : Value) : Bt (w.setCell ⟨B + 1 + 1, j, none⟩ v) B H Z (D.setIfInBounds j v) :=
  ⟨by rw [heap_setCell_other _ _ _ _ (by simp; omega)]; exact h.h, by rw [heap_setCell_other _ _ _ _ (by simp)]; exact h.z, heap_setCell_same _ _ _ _ _ _ h.d⟩
theorem Bt.cellH {w : World} {B : Nat} {H Z D : Array Value} (h : Bt w B H Z D) (j : Nat) : w.cell? ⟨B, j, none⟩ = H[j]? := cell_of_row _ _ _ _ _ _ h.h
theorem Bt.cellD {w : World} {B : Nat} {H Z D : Array Value} (h : Bt w B H Z D) (j : Nat) : w.cell? ⟨B + 1 + 1, j, none⟩ = D[j]? := cell_of_row _ _ _ _ _ _ h.d
theorem Bt.fz {w : World} {B : Nat} {H Z D : Array Value} (h : Bt w B H Z D) (j : Nat) : w.frozen? ⟨B + 1 + 1, j, none⟩ = false := frozen_of_row _ _ j _ _ h.d
theorem Bs.cellI {w : World} {B J : Nat} {H Z D I : Array Value} (h : Bs w B J H Z D I) (j : Nat) : w.cell? ⟨J, j, none⟩ = I[j]? := cell_of_row _ _ _ _ _ _ h.i
/-- Three blocks, the third one stored in. -/
theorem three_of {w w' : World} {H Z Y D : Array Value} (g : Gr ((((w.alloc (.cells H 34)).alloc (.cells Z 41)).alloc (.cells Y 41)).setRow (w.heap.size + 1 + 1) D) w') : Bt w' w.heap.size H Z D := by
  have b := three_blocks (Gr.refl (((w.alloc (.cells H 34)).alloc (.cells Z 41)).alloc (.cells Y 41)))
  refine Bt.of ⟨?_, ?_, ?_⟩ g
  · rw [setRow_other _ _ _ _ (by omega)]; exact b.1
  · rw [setRow_other _ _ _ _ (by omega)]; exact b.2.1
  · exact setRow_heap _ _ _ _ _ (0, 0) b.2.2
theorem third_of (w : World) (H Z Y : Array Value) : (((w.alloc (.cells H 34)).alloc (.cells Z 41)).alloc (.cells Y 41)).heap[w.heap.size + 1 + 1]? = some (.cells Y 41 (0, 0)) := (three_blocks (Gr.refl _)).2.2
theorem gr_three (w : World) (H Z Y D : Array Value) : Gr w ((((w.alloc (.cells H 34)).alloc (.cells Z 41)).alloc (.cells Y 41)).setRow (w.heap.size + 1 + 1) D) := gr_setRow ((((Gr.refl _).alloc _).alloc _).alloc _) (by omega) _
def dv0 (h : Hv) (v : Value) : Dv := ⟨h, v, Hc.nilS, 0, 0⟩
theorem dv0_ok {h : Hv} (o : h.Ok) (ao : Option Addr) (n cap : Nat) : (dv0 h (.slice ao n cap)).Ok := ⟨o, rfl, rfl⟩
theorem pc_e {d : Dv} (o : d.h.Ok) (x : Int) : (dA d).setIfInBounds 32 (.int .u32 x) = dA (d.setH (d.h.go x)) := dA_set o (by omega) (set_pc o x)
/-- The instruction's premises. -/
structure Pr (h : Hv) (ao : Option Addr) (n cap : Nat) (l : List UInt8) (w : World) (x op rd : Int) (r1 r2 : Nat) (im : Int) : Prop where
  o : h.Ok
  M : Mem w ao n l
  hn : n ≤ 140737488351232
  ok : ldOk l 13 h.pc = true
  ex : x = ldV l 13 h.pc
  D : ∀ W : World, Calls Tryd.prog 11 #[.int .u32 x] W fun e w' => e = .returned (.tuple #[.agg #[.int .i64 op, .int .i64 rd, .int .i64 r1, .int .i64 r2, .int .i32 im], .bool true]) ∧ Gr W w'
  d0 : 0 ≤ rd
  d1 : rd < 32
  s1 : r1 < 32
  t1 : r2 < 32
  i0 : -2147483648 ≤ im
  i1 : im < 2147483648
theorem lo_W (x : Int) : 0 ≤ Wd.lo x ∧ Wd.lo x < 4294967296 := Wd.lo_bd x

set_option maxHeartbeats 1000000 in
set_option maxRecDepth 100000 in
theorem rs_fetch {h : Hv} {ao : Option Addr} {n cap : Nat} {l : List UInt8} {w : World} (o : h.Ok) (M : Mem w ao n l) (hn : n ≤ 140737488351232) (ok : ldOk l 13 h.pc = false) : RStep h ao n cap w ⟨h.trap 1, l, [], []⟩ := by
  unfold RStep
  have L : Hid (∀ W : World, Gr w W → Calls Tryd.prog 37 #[.slice ao n cap, .int .i64 13, .int .u32 h.pc] W fun e w' => e = .returned (.tuple #[.int .u32 (ldV l 13 h.pc), .bool false]) ∧ Gr W w') := fun W G => by
    have := Mr.Load_any cap 13 h.pc (M.of G) hn o.pc0 o.pc1
    rw [ok] at this
    exact this.mono fun e w' h => ⟨h.1, by rw [h.2]; exact Gr.refl _⟩
  have HBu : Hid (Tryd.prog.built 41 [(0, .agg (hA h)), (1, .slice ao n cap)] = some (dA (dv0 h (.slice ao n cap)))) := Hc.built_did o _ rfl
  have HS : Hid ((hA h).size = 37) := hA_size o
  have HS0 : Hid ((dA (dv0 h (.slice ao n cap))).size = 41) := dA_size (d := dv0 _ _) o
  have HO0 : Hid ((dA (dv0 h (.slice ao n cap))).all (·.oneCell') = true) := one_dA (dv0_ok o _ _ _)
  have gpc : (hA h)[32]? = some (.int .u32 h.pc) := by simp only [hA, List.getElem?_toArray]; exact hL_fld o 0
  have Tr : Hid (∀ W : World, Calls Tryd.prog 38 #[.agg (dA (dv0 h (.slice ao n cap))), .int .i64 1] W fun e w' => e = .returned (.agg (dA ((dv0 h (.slice ao n cap)).setH ((dv0 h (.slice ao n cap)).h.trap 1)))) ∧ Gr W w') := fun W => trap_any (dv0_ok o ao n cap) 1 W
  have HSt : Hid ((dA ((dv0 h (.slice ao n cap)).setH ((dv0 h (.slice ao n cap)).h.trap 1))).size = 41) := dA_size (d := (dv0 h (.slice ao n cap)).setH _) ((dv0_ok o ao n cap).h.trap 1)
  have HOt : Hid ((dA ((dv0 h (.slice ao n cap)).setH ((dv0 h (.slice ao n cap)).h.trap 1))).all (·.oneCell') = true) := one_dA ((dv0_ok o ao n cap).setH ((dv0_ok o ao n cap).h.trap 1))
  have Okt : Hid (((dv0 h (.slice ao n cap)).setH ((dv0 h (.slice ao n cap)).h.trap 1)).Ok) := (dv0_ok o ao n cap).setH ((dv0_ok o ao n cap).h.trap 1)
  generalize hDt : dA ((dv0 h (.slice ao n cap)).setH ((dv0 h (.slice ao n cap)).h.trap 1)) = Dt at *
  have HDt : Hid (dA ((dv0 h (.slice ao n cap)).setH ((dv0 h (.slice ao n cap)).h.trap 1)) = Dt) := hDt
  clear hDt
  have HM : Hid (Mem w ao n l) := M
  generalize dA (dv0 h (.slice ao n cap)) = D0 at *
  generalize hA h = H at *
  generalize ldV l 13 h.pc = x at *
  generalize h.pc = pc at *
  clear M ok o
  have kpc : ∀ Z Y : Array Value, ((((w.alloc (.cells H 34)).alloc (.cells Z 41)).alloc (.cells Y 41)).setRow (w.heap.size + 1 + 1) D0).cell? ⟨w.heap.size, 32, none⟩ = some (.int .u32 pc) := fun Z Y => ((three_of (Gr.refl _)).cellH 32).trans gpc
  go_enter Tryd.func17, Tryd.ntmps17
  go_wp2_with (first
    | (refine wpList_load_row rfl 34 _ rfl w.heap.size rfl 34 H (0, 0) _ ?ha1 Tryd.underlying34 rfl (by rw [HS.out]; exact iH) ?_; (case ha1 => exact heap_alloc2_old w _ _))
    | (refine wpList_buildTo rfl 41 _ rfl _ rfl D0 (by have := HBu.out; simp [Act.eval, Act.put]; exact this) ?_)
    | (refine wpList_store_row rfl 41 _ _ rfl (w.heap.size + 1 + 1) D0 rfl rfl 41 _ (third_of w _ _ _) (by rw [HS0.out]; exact iD) (by rw [HS0.out]; rfl) HO0.out ?_))
  refine (L.out _ (gr_three w _ _ _ _)).mono ?_
  rintro e w1 ⟨rfl, G1⟩
  have HZ : Hid (∃ Z : Array Value, Z.size = 41 ∧ Bt w1 w.heap.size H Z D0) := ⟨_, rfl, three_of G1⟩
  obtain ⟨Z, hz, hb⟩ := HZ.out
  have HG1 : Hid (Gr w w1) := (gr_three w _ _ _ _).trans G1
  have HB1 : Hid (Bt w1 w.heap.size H Z D0) := hb
  clear G1 L hb HZ HBu kpc
  go_wp2_with (refine wpList_load_row rfl 41 _ rfl (w.heap.size + 1 + 1) rfl 41 D0 (0, 0) _ ?hd1 Tryd.underlying41 rfl (by rw [HS0.out]; exact iD) ?_; (case hd1 => exact HB1.out.d))
  refine (Tr.out _).mono ?_
  rintro e wt ⟨rfl, Gt⟩
  have HRt : Hid (wt.heap[w.heap.size + 1]? = some (.cells Z 41 (0, 0))) := (HB1.out.of Gt).z
  have HGt : Hid (Gr w wt) := HG1.out.trans Gt
  clear Gt Tr
  go_wp2_with (refine wpList_store_row rfl 41 _ _ rfl (w.heap.size + 1) Dt rfl rfl 41 Z ?hd2 (by rw [HSt.out]; exact iD) (by rw [HSt.out, hz]) HOt.out ?_; (case hd2 => exact HRt.out))
  refine bodyPost_ret (v := .agg Dt) (results_cell_row rfl _ _ _ _ _ (0, 0) _ rfl (setRow_heap _ _ _ _ _ (0, 0) HRt.out) Tryd.underlying41 rfl (by rw [HSt.out]; exact iD)) rfl ⟨(dv0 h (.slice ao n cap)).setH ((dv0 h (.slice ao n cap)).h.trap 1), by rw [HDt.out], ⟨Okt.out, rfl, ⟨ao, n, cap, rfl, HM.out.of (gr_setRow HGt.out (by omega) _), .inl rfl⟩, .inl ⟨rfl, rfl⟩, .inl ⟨rfl, rfl, rfl⟩⟩, ?_⟩
  exact gr_setRow HGt.out (by omega) _

set_option maxHeartbeats 1000000 in
set_option maxRecDepth 100000 in
theorem rs_word {h : Hv} {ao : Option Addr} {n cap : Nat} {l : List UInt8} {w : World} (o : h.Ok) (M : Mem w ao n l) (hn : n ≤ 140737488351232) (ok : ldOk l 13 h.pc = true) (D : ∀ W : World, Calls Tryd.prog 11 #[.int .u32 (ldV l 13 h.pc)] W fun e w' => e = .returned (.tuple #[.agg #[.int .i64 0, .int .i64 0, .int .i64 0, .int .i64 0, .int .i32 0], .bool false]) ∧ Gr W w') : RStep h ao n cap w ⟨h.trap 2, l, [], []⟩ := by
  unfold RStep
  have L : Hid (∀ W : World, Gr w W → Calls Tryd.prog 37 #[.slice ao n cap, .int .i64 13, .int .u32 h.pc] W fun e w' => e = .returned (.tuple #[.int .u32 (ldV l 13 h.pc), .bool true]) ∧ Gr W w') := fun W G => by
    have := Mr.Load_any cap 13 h.pc (M.of G) hn o.pc0 o.pc1
    rw [ok] at this
    exact this.mono fun e w' h => ⟨h.1, by rw [h.2]; exact Gr.refl _⟩
  have HBu : Hid (Tryd.prog.built 41 [(0, .agg (hA h)), (1, .slice ao n cap)] = some (dA (dv0 h (.slice ao n cap)))) := Hc.built_did o _ rfl
  have HS : Hid ((hA h).size = 37) := hA_size o
  have HS0 : Hid ((dA (dv0 h (.slice ao n cap))).size = 41) := dA_size (d := dv0 _ _) o
  have HO0 : Hid ((dA (dv0 h (.slice ao n cap))).all (·.oneCell') = true) := one_dA (dv0_ok o _ _ _)
  have gpc : (hA h)[32]? = some (.int .u32 h.pc) := by simp only [hA, List.getElem?_toArray]; exact hL_fld o 0
  have Tr : Hid (∀ W : World, Calls Tryd.prog 38 #[.agg (dA (dv0 h (.slice ao n cap))), .int .i64 2] W fun e w' => e = .returned (.agg (dA ((dv0 h (.slice ao n cap)).setH ((dv0 h (.slice ao n cap)).h.trap 2)))) ∧ Gr W w') := fun W => trap_any (dv0_ok o ao n cap) 2 W
  have HSt : Hid ((dA ((dv0 h (.slice ao n cap)).setH ((dv0 h (.slice ao n cap)).h.trap 2))).size = 41) := dA_size (d := (dv0 h (.slice ao n cap)).setH _) ((dv0_ok o ao n cap).h.trap 2)
  have HOt : Hid ((dA ((dv0 h (.slice ao n cap)).setH ((dv0 h (.slice ao n cap)).h.trap 2))).all (·.oneCell') = true) := one_dA ((dv0_ok o ao n cap).setH ((dv0_ok o ao n cap).h.trap 2))
  have Okt : Hid (((dv0 h (.slice ao n cap)).setH ((dv0 h (.slice ao n cap)).h.trap 2)).Ok) := (dv0_ok o ao n cap).setH ((dv0_ok o ao n cap).h.trap 2)
  generalize hDt : dA ((dv0 h (.slice ao n cap)).setH ((dv0 h (.slice ao n cap)).h.trap 2)) = Dt at *
  have HDt : Hid (dA ((dv0 h (.slice ao n cap)).setH ((dv0 h (.slice ao n cap)).h.trap 2)) = Dt) := hDt
  clear hDt
  have HM : Hid (Mem w ao n l) := M
  have HD : Hid (∀ W : World, Calls Tryd.prog 11 #[.int .u32 (ldV l 13 h.pc)] W fun e w' => e = .returned (.tuple #[.agg #[.int .i64 0, .int .i64 0, .int .i64 0, .int .i64 0, .int .i32 0], .bool false]) ∧ Gr W w') := D
  generalize dA (dv0 h (.slice ao n cap)) = D0 at *
  generalize hA h = H at *
  generalize ldV l 13 h.pc = x at *
  generalize h.pc = pc at *
  clear M ok o D
  have kpc : ∀ Z Y : Array Value, ((((w.alloc (.cells H 34)).alloc (.cells Z 41)).alloc (.cells Y 41)).setRow (w.heap.size + 1 + 1) D0).cell? ⟨w.heap.size, 32, none⟩ = some (.int .u32 pc) := fun Z Y => ((three_of (Gr.refl _)).cellH 32).trans gpc
  go_enter Tryd.func17, Tryd.ntmps17
  go_wp2_with (first
    | (refine wpList_load_row rfl 34 _ rfl w.heap.size rfl 34 H (0, 0) _ ?ha1 Tryd.underlying34 rfl (by rw [HS.out]; exact iH) ?_; (case ha1 => exact heap_alloc2_old w _ _))
    | (refine wpList_buildTo rfl 41 _ rfl _ rfl D0 (by have := HBu.out; simp [Act.eval, Act.put]; exact this) ?_)
    | (refine wpList_store_row rfl 41 _ _ rfl (w.heap.size + 1 + 1) D0 rfl rfl 41 _ (third_of w _ _ _) (by rw [HS0.out]; exact iD) (by rw [HS0.out]; rfl) HO0.out ?_))
  refine (L.out _ (gr_three w _ _ _ _)).mono ?_
  rintro e w1 ⟨rfl, G1⟩
  have HZ : Hid (∃ Z : Array Value, Z.size = 41 ∧ Bt w1 w.heap.size H Z D0) := ⟨_, rfl, three_of G1⟩
  obtain ⟨Z, hz, hb⟩ := HZ.out
  have HG1 : Hid (Gr w w1) := (gr_three w _ _ _ _).trans G1
  have HB1 : Hid (Bt w1 w.heap.size H Z D0) := hb
  clear G1 L hb HZ HBu kpc
  go_wp2_with fail
  refine (HD.out _).mono ?_
  rintro e w2 ⟨rfl, G2⟩
  have HB2 : Hid (∀ ob, Bt (w2.alloc ob) w.heap.size H Z D0) := fun ob => (HB1.out.of G2).of ((Gr.refl _).alloc _)
  have HG2 : Hid (∀ ob, Gr w (w2.alloc ob)) := fun ob => (HG1.out.trans G2).alloc _
  clear G2 HD HB1 HG1
  go_wp2_with (refine wpList_load_row rfl 41 _ rfl (w.heap.size + 1 + 1) rfl 41 D0 (0, 0) _ ?hd1 Tryd.underlying41 rfl (by rw [HS0.out]; exact iD) ?_; (case hd1 => exact (HB2.out _).d))
  refine (Tr.out _).mono ?_
  rintro e wt ⟨rfl, Gt⟩
  have HRt : Hid (wt.heap[w.heap.size + 1]? = some (.cells Z 41 (0, 0))) := ((HB2.out _).of Gt).z
  have HGt : Hid (Gr w wt) := (HG2.out _).trans Gt
  clear Gt Tr
  go_wp2_with (refine wpList_store_row rfl 41 _ _ rfl (w.heap.size + 1) Dt rfl rfl 41 Z ?hd2 (by rw [HSt.out]; exact iD) (by rw [HSt.out, hz]) HOt.out ?_; (case hd2 => exact HRt.out))
  refine bodyPost_ret (v := .agg Dt) (results_cell_row rfl _ _ _ _ _ (0, 0) _ rfl (setRow_heap _ _ _ _ _ (0, 0) HRt.out) Tryd.underlying41 rfl (by rw [HSt.out]; exact iD)) rfl ⟨(dv0 h (.slice ao n cap)).setH ((dv0 h (.slice ao n cap)).h.trap 2), by rw [HDt.out], ⟨Okt.out, rfl, ⟨ao, n, cap, rfl, HM.out.of (gr_setRow HGt.out (by omega) _), .inl rfl⟩, .inl ⟨rfl, rfl⟩, .inl ⟨rfl, rfl, rfl⟩⟩, ?_⟩
  exact gr_setRow HGt.out (by omega) _
end Go.Proofs.YtfolphjampklpaaDoor.Hr
