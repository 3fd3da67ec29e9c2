/-
  What package asm writes behind a name ('written': 'wrB').
-/
import Derived.Test.YtkdghgiajifbdaaDoorAy
import Derived.Test.YtkdghgiajifbdaaDoorAv
namespace Go.Proofs.YtkdghgiajifbdaaDoor.As
open Go.ChangeShapes Go.WideShapes Go.ChangeAt Go.RowKit Mm
set_option linter.unusedVariables false

variable {w w' : World}
theorem bld_old {T e : TypeId} {B b : Nat} {bs : List Value} (h : Lib.IsBuilderF T e B b bs w) (G : Gr w w') : Lib.IsBuilderF T e B b bs w' := by
  have one : ∀ p, Lib.BuilderAtF T e B b p bs w → Lib.BuilderAtF T e B b p bs w' := fun p ⟨hB, v, hb, hown, hne⟩ =>
    ⟨hB, v, (Below.block G b (gs hb).1).trans hb, hown.kept (row := none) ⟨G.os, G.tape, G.output, G.size, fun k hk _ => Below.block G k hk⟩ (by cases v.ownBlock <;> simp), hne⟩
  exact h.elim (fun x => .inl (one _ x)) (fun x => .inr (one _ x))
theorem _root_.Go.Proofs.YtkdghgiajifbdaaDoor.Mm.Gr.trans' {a b c : World} (h : Gr a b) (k : Below (a.heap.size + 1) b c) : Gr a c := Below.trans h (Below.mono k (by omega))
theorem flat_take (L : List Nat) (f : Nat → List Nat) (p : Nat) (h : p < L.length) : (L.take (p + 1)).flatMap f = (L.take p).flatMap f ++ f L[p] := by
  rw [List.take_add_one, List.getElem?_eq_getElem h, List.flatMap_append]
  simp only [Option.toList_some, List.flatMap_cons, List.flatMap_nil, List.append_nil]
theorem told_len {rd a b n : Int} (R : Rgs rd a b n) (c : Nat) : (toldB rd a b n c).length ≤ 30 := by
  have h := R
  obtain ⟨d0, d1, a0, a1, b0, b1, n0, n1⟩ := h
  have l1 := num_len (n := rd) (by omega) (by omega)
  have l2 := num_len (n := a) (by omega) (by omega)
  have l3 := num_len (n := b) (by omega) (by omega)
  have l4 := num_len (n := n) (by omega) (by omega)
  have l5 := num_len (n := n / 4096) (by omega) (by omega)
  unfold toldB rg
  repeat' split
  all_goals simp <;> omega
theorem flat_len {rd a b n : Int} (R : Rgs rd a b n) : ∀ l : List Nat, (l.flatMap (toldB rd a b n)).length ≤ 30 * l.length
  | [] => by simp
  | c :: l => by
    have := flat_len R l
    have := told_len R c
    simp only [List.flatMap_cons, List.length_append, List.length_cons]; omega
set_option maxHeartbeats 4000000 in
set_option maxRecDepth 1000000 in
theorem written_any {op rd a b n : Int} (R : Rgs rd a b n) (T : Tas w) : Calls Tryd.prog 46 #[.agg #[.int .i64 op, .int .i64 rd, .int .i64 a, .int .i64 b, .int .i32 n]] w fun e w' => e = .returned (str (wrB op rd a b n)) ∧ Gr w w' := by
  have HS : Hid (∀ w : World, Calls Tryd.prog 84 #[.int .i64 op] w fun e w' => e = .returned (str (shp op)) ∧ w = w') := shape_any op
  have HR : Hid (Rgs rd a b n) := R
  have HT : Hid (Tas w) := T
  have hch : Hid (∀ c ∈ shp op, c = 100 ∨ c = 115 ∨ c = 116 ∨ c = 105 ∨ c = 117 ∨ c = 44 ∨ c = 40 ∨ c = 41) := shp_ch op
  have hln : Hid ((shp op).length ≤ 7) := shp_len op
  clear R T
  unfold wrB
  generalize shp op = S at *
  go_enter Tryd.func46, Tryd.ntmps46
  go_wp2_with fail
  refine (HS.out _).mono ?_
  rintro e _ ⟨rfl, rfl⟩
  rw [show str S = .string (bs S) from rfl]
  go_wp2_with fail
  go_loopw [] (fun wr => ∃ (pos : Nat), pos ≤ S.length ∧ Lib.IsBuilderF 141 5 (w.heap.size + 1) (w.heap.size + 1) (Lib.byteCells (((S.take pos).flatMap (toldB rd a b n)).map UInt8.ofNat)) wr ∧ wr.heap[w.heap.size + 1 + 1]? = some (.stringIter (bs S) pos) ∧ wr.heap[w.heap.size]? = some (.cells #[.int .i64 op, .int .i64 rd, .int .i64 a, .int .i64 b, .int .i32 n] 23 (0, 0)) ∧ Gr w wr) (fun wr => (bs S).size - wr.iterPos (w.heap.size + 1 + 1))
  case atStart =>
    refine ⟨0, Nat.zero_le _, ?_, ?_, ?_, (((Gr.refl w).alloc _).alloc _).alloc _⟩
    · have := (Lib.IsBuilderF.of (Lib.fresh_isBuilder 141 5 (w.alloc (.cells #[.int .i64 op, .int .i64 rd, .int .i64 a, .int .i64 b, .int .i32 n] 23)))).alloc (.stringIter (bs S) 0)
      rw [show (w.alloc (.cells #[.int .i64 op, .int .i64 rd, .int .i64 a, .int .i64 b, .int .i32 n] 23)).heap.size = w.heap.size + 1 by simp] at this
      exact this
    · have := World.iter_heap ((w.alloc (.cells #[.int .i64 op, .int .i64 rd, .int .i64 a, .int .i64 b, .int .i32 n] 23)).alloc (.cells #[.pointer none, .slice none 0 0] 141)) (bs S) 0
      simpa using this
    · show (((w.alloc _).alloc _).alloc _).heap[w.heap.size]? = _
      rw [heap_alloc_old _ _ (by simp; omega), heap_alloc_old _ _ (by simp)]
      exact heap_alloc_new w _
  case round =>
    obtain ⟨pos, hps, hI, hit, hbk, hg⟩ := hrel
    have hI0 : Hid _ := hI
    by_cases hp : pos < S.length
    · have hp' : pos < (bs S).size := by rw [bs_size]; exact hp
      have hc := hch.out _ (List.getElem_mem hp)
      have hc128 : S[pos] < 128 := by omega
      have e0 : ((bs S)[pos]'hp').toNat = S[pos] := by
        have : (bs S)[pos]'hp' = UInt8.ofNat S[pos] := by
          show (bs S).data[pos] = _
          simp only [bs, List.getElem_toArray, List.getElem_map]
        rw [this, UInt8.toNat_ofNat']; omega
      have hnx : ∀ ty, (Instr.next (.pointer (some ⟨w.heap.size + 1 + 1, 0, none⟩)) true ty).run Tryd.prog wr = .ok (.tuple #[.bool true, .int .i64 pos, .int .i32 (S[pos] : Nat)]) (wr.iterAt (w.heap.size + 1 + 1) (bs S) (pos + 1)) := fun ty => by
        rw [Lib.run_next_ascii_at wr _ (bs S) pos ty hit hp' (by omega), e0]
      have HI2 : Hid (Lib.IsBuilderF 141 5 (w.heap.size + 1) (w.heap.size + 1) (Lib.byteCells (((S.take pos).flatMap (toldB rd a b n)).map UInt8.ofNat)) (wr.iterAt (w.heap.size + 1 + 1) (bs S) (pos + 1))) := hI.iterAt hit (pos + 1)
      have hit2 : Hid _ := Lib.iterAt_heap wr (w.heap.size + 1 + 1) (bs S) pos (pos + 1) hit
      have hbk2 : Hid ((wr.iterAt (w.heap.size + 1 + 1) (bs S) (pos + 1)).heap[w.heap.size]? = _) := (Lib.iterAt_other wr (w.heap.size + 1 + 1) w.heap.size (bs S) (pos + 1) (by omega)).trans hbk
      have hg2 : Hid (Gr w (wr.iterAt (w.heap.size + 1 + 1) (bs S) (pos + 1))) := Lib.below_iterAt hg (by omega) (bs S) (pos + 1)
      have hm : Hid (wr.iterPos (w.heap.size + 1 + 1) = pos) := by unfold Hid; simp [World.iterPos, hit]
      have HC : Hid (∀ W : World, Tas W → Calls Tryd.prog 86 #[.agg #[.int .i64 op, .int .i64 rd, .int .i64 a, .int .i64 b, .int .i32 n], .int .i32 ((S[pos] : Nat) : Int)] W fun e w' => e = .returned (str (toldB rd a b n S[pos])) ∧ Gr W w') := fun W T => told_any HR.out T hc
      have hfl : Hid (_ = _) := flat_take S (toldB rd a b n) pos hp
      have hle : Hid _ := flat_len HR.out (S.take (pos + 1))
      clear hI hit hbk hg hc hc128 e0
      generalize wr.iterAt (w.heap.size + 1 + 1) (bs S) (pos + 1) = W1 at *
      generalize S[pos] = c at *
      have z0 := cr0 hbk2.out
      have z1 := cr1 hbk2.out
      have z2 := cr2 hbk2.out
      have z3 := cr3 hbk2.out
      have z4 := cr4 hbk2.out
      go_wp2_with fail
      refine (HC.out _ (HT.out.of hg2.out)).mono ?_
      rintro e W2 ⟨rfl, G2⟩
      have HI3 : Hid (Lib.IsBuilderF 141 5 (w.heap.size + 1) (w.heap.size + 1) (Lib.byteCells (((S.take pos).flatMap (toldB rd a b n)).map UInt8.ofNat)) W2) := bld_old HI2.out G2
      have hit3 : Hid (W2.heap[w.heap.size + 1 + 1]? = _) := upA G2 hit2.out
      have hbk3 : Hid (W2.heap[w.heap.size]? = _) := upA G2 hbk2.out
      have hg3 : Hid (Gr w W2) := hg2.out.trans G2
      have hsz : Hid (w.heap.size + 1 ≤ W2.heap.size) := by have := (gs hit3.out).1; unfold Hid; omega
      have H4 : Hid (Calls Tryd.prog 85 #[.pointer (some ⟨w.heap.size + 1, 0, none⟩), .string (bs (toldB rd a b n c))] W2 fun e w' => e = .returned (.tuple #[.int .i64 (bs (toldB rd a b n c)).size, .nilIface]) ∧ Lib.IsBuilderF 141 5 (w.heap.size + 1) (w.heap.size + 1) (Lib.byteCells (((S.take pos).flatMap (toldB rd a b n)).map UInt8.ofNat) ++ Lib.strCells (bs (toldB rd a b n c))) w' ∧ Below (w.heap.size + 1) W2 w' ∧ Lib.OthersKept 5 (some (w.heap.size + 1)) W2 w') :=
        write_any (bs (toldB rd a b n c)) HI3.out (by
          have h1 := hle.out
          have h2 := congrArg List.length hfl.out
          have h3 := hln.out
          rw [List.length_take] at h1
          rw [List.length_append] at h2
          rw [Lib.byteCells_length, List.length_map, bs_size]; omega) hsz.out
      have hcs : Hid (Lib.byteCells (((S.take pos).flatMap (toldB rd a b n)).map UInt8.ofNat) ++ Lib.strCells (bs (toldB rd a b n c)) = Lib.byteCells (((S.take (pos + 1)).flatMap (toldB rd a b n)).map UInt8.ofNat)) := by
        unfold Hid
        rw [hfl.out, Lib.strCells_eq, bs_list, List.map_append]
        simp [Lib.byteCells]
      clear z0 z1 z2 z3 z4 G2 hnx HC HI2 hit2 hbk2 hg2 hle hfl HI3
      rw [show str (toldB rd a b n c) = .string (bs (toldB rd a b n c)) from rfl]
      generalize bs (toldB rd a b n c) = sb at *
      go_wp2_with fail
      refine H4.out.mono ?_
      rintro e W3 ⟨rfl, hI4, hb4, hk4⟩
      rw [hcs.out] at hI4
      have HI4 : Hid _ := hI4
      clear hI4
      go_wp2_with fail
      go_roundw
      case rel =>
        exact ⟨pos + 1, by omega, HI4.out, hk4.iter hit3.out (by omega), (Below.block hb4 _ (by omega)).trans hbk3.out, hg3.out.trans' hb4⟩
      case measure =>
        have e1 : W3.iterPos (w.heap.size + 1 + 1) = pos + 1 := by simp [World.iterPos, hk4.iter hit3.out (by omega)]
        rw [e1, hm.out]; omega
    · have hps' : pos = S.length := by omega
      subst hps'
      have hnx : ∀ ty, (Instr.next (.pointer (some ⟨w.heap.size + 1 + 1, 0, none⟩)) true ty).run Tryd.prog wr = _ := fun ty => Lib.run_next_end_at wr (w.heap.size + 1 + 1) (bs S) S.length ty hit (by rw [bs_size]; omega)
      have hsz : w.heap.size + 1 ≤ wr.heap.size := by have := (gs hit).1; omega
      have H5 : Hid (Calls Tryd.prog 87 #[.pointer (some ⟨w.heap.size + 1, 0, none⟩)] wr fun e w' => e = .returned (str (S.flatMap (toldB rd a b n))) ∧ Below (w.heap.size + 1) wr w') := (Tryd.Builder_String_any_k (w.heap.size + 1) (w.heap.size + 1) (((S.take S.length).flatMap (toldB rd a b n)).map UInt8.ofNat) wr hI hsz).mono fun e w' ⟨he, _, hb, _⟩ => ⟨by rw [he, List.take_length]; rfl, hb⟩
      have HG : Hid (Gr w wr) := hg
      clear hI hit hbk hg hI0 hsz
      go_wp2_with fail
      refine H5.out.mono ?_
      rintro e W3 ⟨rfl, hb4⟩
      go_wp2_with fail
      go_ret
      exact ⟨rfl, HG.out.trans' hb4⟩
end Go.Proofs.YtkdghgiajifbdaaDoor.As
