/-
  What the function read of package asm answers: the fields that are read of what follows a name ('rdA').
-/
import Derived.Test.YtkdghgiajifbdaaDoorAa3
import Derived.Deep.RegionWith
namespace Go.Proofs.YtkdghgiajifbdaaDoor.As
open Go.ChangeShapes Go.WideShapes Go.ChangeAt Go.RowKit Mm
set_option linter.unusedVariables false

variable {w w' : World}
/-- What lies there while it is read: how far it has come, what is read, what is left. -/
structure Rq (w : World) (S : List Nat) (pos : Nat) (f : Fi) (s : ByteArray) (wr : World) : Prop where
  g : Gr w wr
  i : wr.heap[w.heap.size]? = some (.cells #[.int .i64 f.1, .int .i64 f.2.1, .int .i64 f.2.2.1, .int .i64 f.2.2.2.1, .int .i32 f.2.2.2.2] 23 (0, 0))
  r : wr.heap[w.heap.size + 1]? = some (.cells #[.int .i64 0, .int .i64 0, .int .i64 0, .int .i64 0, .int .i32 0] 23 (0, 0))
  t : wr.heap[w.heap.size + 1 + 1]? = some (.stringIter (bs S) pos)
  l : s.size ≤ 140737488355328
theorem Rq.of {S : List Nat} {pos : Nat} {f : Fi} {s : ByteArray} {a b : World} (h : Rq w S pos f s a) (G : Gr a b) : Rq w S pos f s b := ⟨h.g.trans G, upA G h.i, upA G h.r, upA G h.t, h.l⟩
theorem Rq.on {S : List Nat} {pos : Nat} {f : Fi} {s : ByteArray} {a : World} (h : Rq w S pos f s a) : Rq w S (pos + 1) f s (a.iterAt (w.heap.size + 1 + 1) (bs S) (pos + 1)) :=
  ⟨Lib.below_iterAt h.g (by omega) _ _, (Lib.iterAt_other _ _ _ _ _ (by omega)).trans h.i, (Lib.iterAt_other _ _ _ _ _ (by omega)).trans h.r, Lib.iterAt_heap _ _ _ _ _ h.t, h.l⟩
theorem Rq.put {S : List Nat} {pos : Nat} {f : Fi} {s s2 : ByteArray} {a : World} (h : Rq w S pos f s a) (f1 f2 f3 f4 f5 : Int) (hl : s2.size ≤ 140737488355328) :
    Rq w S pos (f1, f2, f3, f4, f5) s2 (((((a.setCell ⟨w.heap.size, 0, none⟩ (.int .i64 f1)).setCell ⟨w.heap.size, 1, none⟩ (.int .i64 f2)).setCell ⟨w.heap.size, 2, none⟩ (.int .i64 f3)).setCell ⟨w.heap.size, 3, none⟩ (.int .i64 f4)).setCell ⟨w.heap.size, 4, none⟩ (.int .i32 f5)) :=
  ⟨((((h.g.setCell (Nat.le_refl _) _).setCell (Nat.le_refl _) _).setCell (Nat.le_refl _) _).setCell (Nat.le_refl _) _).setCell (Nat.le_refl _) _, five_set h.i _ _ _ _ _,
   by rw [hso (by simp), hso (by simp), hso (by simp), hso (by simp), hso (by simp)]; exact h.r, by rw [hso (by simp; omega), hso (by simp; omega), hso (by simp; omega), hso (by simp; omega), hso (by simp; omega)]; exact h.t, hl⟩
theorem Rq.dr {S : List Nat} {pos : Nat} {f : Fi} {s : ByteArray} {a : World} (h : Rq w S pos f s a) (k : Nat) : Rq w S pos f s (a.drewN k) := h.of ((Gr.refl _).drewN k)
theorem fold_take (S : List Nat) (x : Fi × ByteArray) (p : Nat) (h : p < S.length) : (S.take (p + 1)).foldl rdS x = rdS ((S.take p).foldl rdS x) S[p] := by
  rw [List.take_add_one, List.getElem?_eq_getElem h, List.foldl_append]
  rfl
theorem rdS_part {f : Fi} {s : ByteArray} {c : Nat} (h : btw c = false) : rdS (f, s) c = (stB f c (nmB (cutB (Lib.trimLeftF btw s)).1), (cutB (Lib.trimLeftF btw s)).2) := by
  unfold rdS
  rw [if_neg (by rw [h]; decide)]
set_option maxHeartbeats 8000000 in
set_option maxRecDepth 1000000 in
theorem read_any {op m : Int} {s0 : ByteArray} (hs : s0.size ≤ 140737488355328) (E : Ers w) : Calls Tryd.prog 51 #[.agg #[.int .i64 op, .int .i64 0, .int .i64 0, .int .i64 0, .int .i32 m], .string s0] w fun e w' => e = .returned (insV (rdA op m s0)) ∧ Gr w w' := by
  have HS : Hid (∀ w : World, Calls Tryd.prog 84 #[.int .i64 op] w fun e w' => e = .returned (str (shp op)) ∧ w = w') := shape_any op
  have HE : Hid (Ers w) := E
  have hch : Hid (∀ c ∈ shp op, c = 100 ∨ c = 115 ∨ c = 116 ∨ c = 105 ∨ c = 117 ∨ c = 44 ∨ c = 40 ∨ c = 41) := shp_ch op
  have HL : Hid (s0.size ≤ 140737488355328) := hs
  clear E hs
  unfold rdA
  generalize shp op = S at *
  go_enter Tryd.func51, Tryd.ntmps51
  go_wp2_with fail
  refine (HS.out _).mono ?_
  rintro e _ ⟨rfl, rfl⟩
  rw [show str S = .string (bs S) from rfl]
  go_wp2_with fail
  go_loopw [1] (fun s1 wr => ∃ (pos : Nat) (f : Fi) (s : ByteArray), s1 = .string s ∧ pos ≤ S.length ∧ (S.take pos).foldl rdS ((op, 0, 0, 0, m), s0) = (f, s) ∧ Rq w S pos f s wr) (fun _ wr => (bs S).size - wr.iterPos (w.heap.size + 1 + 1))
  case atStart =>
    refine ⟨0, (op, 0, 0, 0, m), s0, rfl, Nat.zero_le _, rfl, (((Gr.refl w).alloc _).alloc _).alloc _, ?_, ?_, ?_, HL.out⟩
    · show (((w.alloc _).alloc _).alloc _).heap[w.heap.size]? = _
      rw [heap_alloc_old _ _ (by simp; omega), heap_alloc_old _ _ (by simp)]
      exact heap_alloc_new w _
    · show (((w.alloc _).alloc _).alloc _).heap[w.heap.size + 1]? = _
      rw [heap_alloc_old _ _ (by simp)]
      exact al2 _ _ _
    · have := World.iter_heap ((w.alloc (.cells #[.int .i64 op, .int .i64 0, .int .i64 0, .int .i64 0, .int .i32 m] 23)).alloc (.cells #[.int .i64 0, .int .i64 0, .int .i64 0, .int .i64 0, .int .i32 0] 23)) (bs S) 0
      simpa using this
  case round =>
    obtain ⟨pos, f, s, rfl, hps, hfo, hq⟩ := hrel
    have HF : Hid ((S.take pos).foldl rdS ((op, 0, 0, 0, m), s0) = (f, s)) := hfo
    have hm : Hid (wr.iterPos (w.heap.size + 1 + 1) = pos) := by unfold Hid; simp [World.iterPos, hq.t]
    have HQ : Hid (Rq w S pos f s wr) := hq
    clear hfo hq
    by_cases hp : pos < S.length
    · have hp' : pos < (bs S).size := by rw [bs_size]; exact hp
      have hc := hch.out _ (List.getElem_mem hp)
      have e0 : ((bs S)[pos]'hp').toNat = S[pos] := by
        have : (bs S)[pos]'hp' = UInt8.ofNat S[pos] := by
          show (bs S).data[pos] = _
          simp only [bs, List.getElem_toArray, List.getElem_map]
        rw [this, UInt8.toNat_ofNat']; omega
      have hnx : ∀ ty, (Instr.next (.pointer (some ⟨w.heap.size + 1 + 1, 0, none⟩)) true ty).run Tryd.prog wr = .ok (.tuple #[.bool true, .int .i64 pos, .int .i32 (S[pos] : Nat)]) (wr.iterAt (w.heap.size + 1 + 1) (bs S) (pos + 1)) := fun ty => by
        rw [Lib.run_next_ascii_at wr _ (bs S) pos ty HQ.out.t hp' (by omega), e0]
      have HQ1 : Hid (Rq w S (pos + 1) f s (wr.iterAt (w.heap.size + 1 + 1) (bs S) (pos + 1))) := HQ.out.on
      have HF1 : Hid ((S.take (pos + 1)).foldl rdS ((op, 0, 0, 0, m), s0) = rdS (f, s) S[pos]) := by unfold Hid; rw [fold_take S _ pos hp, HF.out]
      have HM : Hid (∀ W : World, W.heap[w.heap.size + 1 + 1]? = some (.stringIter (bs S) (pos + 1)) → (bs S).size - W.iterPos (w.heap.size + 1 + 1) < (bs S).size - wr.iterPos (w.heap.size + 1 + 1)) := fun W h => by
        rw [show W.iterPos (w.heap.size + 1 + 1) = pos + 1 by simp [World.iterPos, h], hm.out]; omega
      have HB : Hid (∀ W : World, Calls Tryd.prog 89 #[.int .i32 ((S[pos] : Nat) : Int)] W fun e w' => e = .returned (.bool (btw S[pos])) ∧ W = w') := fun W => btw_any _ W
      have HC : Hid (S[pos] = 100 ∨ S[pos] = 115 ∨ S[pos] = 116 ∨ S[pos] = 105 ∨ S[pos] = 117 ∨ S[pos] = 44 ∨ S[pos] = 40 ∨ S[pos] = 41) := hc
      clear hc e0 HQ HF hm
      generalize wr.iterAt (w.heap.size + 1 + 1) (bs S) (pos + 1) = W1 at *
      generalize S[pos] = c at *
      by_cases hb : btw c = true
      · rw [hb] at HB
        go_wp2_with fail
        refine (HB.out _).mono ?_
        rintro e _ ⟨rfl, rfl⟩
        go_wp2_with fail
        go_roundw
        case rel => exact ⟨pos + 1, f, s, rfl, by omega, by rw [HF1.out, rdS_btw hb], HQ1.out⟩
        case measure => exact HM.out _ HQ1.out.t
      · have hb' : btw c = false := by simpa using hb
        rw [hb'] at HB
        rw [rdS_part hb'] at HF1
        have HC1 : Hid (c = 100 ∨ c = 115 ∨ c = 116 ∨ c = 105 ∨ c = 117) := by
          unfold Hid
          have := HC.out
          by_cases h : c = 44 ∨ c = 40 ∨ c = 41
          · exact absurd (by rcases h with rfl | rfl | rfl <;> rfl) hb
          · omega
        have h1 := trim_le s
        have h2 := cut_le (Lib.trimLeftF btw s)
        have hl := HQ1.out.l
        have HX : Hid ((cutB (Lib.trimLeftF btw s)).1.size ≤ 140737488355328 ∧ (cutB (Lib.trimLeftF btw s)).2.size ≤ 140737488355328) := ⟨by omega, by omega⟩
        have H1 : Hid (∀ W : World, Calls Tryd.prog 91 #[.string s, .func (.func 89) #[] #[]] W fun e w' => e = .returned (.string (Lib.trimLeftF btw s)) ∧ Gr W w') := trim_any s
        have H2 : Hid (∀ W : World, Calls Tryd.prog 90 #[.string (Lib.trimLeftF btw s), .func (.func 89) #[] #[]] W fun e w' => e = .returned (.tuple #[.string (cutB (Lib.trimLeftF btw s)).1, .string (cutB (Lib.trimLeftF btw s)).2]) ∧ Gr W w') := cut_any _
        clear h1 h2 hl hb hb' HC
        generalize Lib.trimLeftF btw s = tr at *
        generalize (cutB tr).1 = p1 at *
        generalize (cutB tr).2 = p2 at *
        have hn := nmB_bd p1
        have H3 : Hid (∀ W : World, Ers W → Calls Tryd.prog 93 #[.string p1] W fun e w' => e = .returned (.int .i32 (nmB p1)) ∧ Gr W w') := fun W E => number_any HX.out.1 E
        have H4 : Hid (∀ W : World, Calls Tryd.prog 92 #[.agg #[.int .i64 f.1, .int .i64 f.2.1, .int .i64 f.2.2.1, .int .i64 f.2.2.2.1, .int .i32 f.2.2.2.2], .int .i32 (c : Int), .int .i32 (nmB p1)] W fun e w' => e = .returned (insV (stB f c (nmB p1))) ∧ Gr W w') := fun W => set_any hn.1 hn.2 HC1.out W
        clear hn
        generalize nmB p1 = n at *
        generalize stB f c n = f' at *
        obtain ⟨f1, f2, f3, f4, f5⟩ := f
        obtain ⟨g1, g2, g3, g4, g5⟩ := f'
        simp only [insV] at H4
        go_wp2_with fail
        refine (HB.out _).mono ?_
        rintro e _ ⟨rfl, rfl⟩
        go_wp2_with fail
        refine (H1.out _).mono ?_
        rintro e W2 ⟨rfl, G2⟩
        have HQ2 : Hid _ := HQ1.out.of G2
        clear G2
        go_wp2_with fail
        refine (H2.out _).mono ?_
        rintro e W3 ⟨rfl, G3⟩
        have HQ3 : Hid (Rq w S (pos + 1) (f1, f2, f3, f4, f5) s W3) := HQ2.out.of G3
        clear G3
        have z0 := cr0 HQ3.out.i
        have z1 := cr1 HQ3.out.i
        have z2 := cr2 HQ3.out.i
        have z3 := cr3 HQ3.out.i
        have z4 := cr4 HQ3.out.i
        go_wp2_with fail
        go_region_with (first
          | (go_at_call 93; refine (H3.out _ (HE.out.of (Gr.trans HQ3.out.g (by repeat (first | exact Gr.refl W3 | refine Gr.drewN ?_ _ | refine Gr.drew ?_))))).mono ?_; rintro e W4 ⟨rfl, G4⟩; have HQ4 : Hid (Rq w S (pos + 1) (f1, f2, f3, f4, f5) s W4) := HQ3.out.of (Gr.trans (by repeat (first | exact Gr.refl W3 | refine Gr.drewN ?_ _ | refine Gr.drew ?_)) G4); have y0 := cr0 HQ4.out.i; have y1 := cr1 HQ4.out.i; have y2 := cr2 HQ4.out.i; have y3 := cr3 HQ4.out.i; have y4 := cr4 HQ4.out.i; clear G4)
          | (go_at_call 92; refine (H4.out _).mono ?_; rintro e W5 ⟨rfl, G5⟩; have HQ5 : Hid (Rq w S (pos + 1) (f1, f2, f3, f4, f5) s W5) := HQ4.out.of (Gr.trans (by repeat (first | exact Gr.refl W4 | refine Gr.drewN ?_ _ | refine Gr.drew ?_)) G5); have x0 := cr0 HQ5.out.i; have x1 := cr1 HQ5.out.i; have x2 := cr2 HQ5.out.i; have x3 := cr3 HQ5.out.i; have x4 := cr4 HQ5.out.i; have xf : ∀ j, W5.frozen? ⟨w.heap.size, j, none⟩ = false := fun j => fzr HQ5.out.i; clear G5))
        all_goals
          have HQ6 := HQ5.out.put g1 g2 g3 g4 g5 HX.out.2
          clear x0 x1 x2 x3 x4 xf y0 y1 y2 y3 y4 z0 z1 z2 z3 z4
          go_wp2_with fail
          go_roundw
          case rel => exact ⟨pos + 1, (g1, g2, g3, g4, g5), p2, rfl, by omega, HF1.out, by first | exact HQ6 | exact HQ6.dr _⟩
          case measure => exact HM.out _ (by first | exact HQ6.t | exact (HQ6.dr _).t)
    · have hps' : pos = S.length := by omega
      subst hps'
      have hnx : ∀ ty, (Instr.next (.pointer (some ⟨w.heap.size + 1 + 1, 0, none⟩)) true ty).run Tryd.prog wr = _ := fun ty => Lib.run_next_end_at wr (w.heap.size + 1 + 1) (bs S) S.length ty HQ.out.t (by rw [bs_size]; omega)
      have HF' : Hid (S.foldl rdS ((op, 0, 0, 0, m), s0) = (f, s)) := by have := HF.out; rwa [List.take_length] at this
      obtain ⟨f1, f2, f3, f4, f5⟩ := f
      have z0 := cr0 HQ.out.i
      have z1 := cr1 HQ.out.i
      have z2 := cr2 HQ.out.i
      have z3 := cr3 HQ.out.i
      have z4 := cr4 HQ.out.i
      have x0 := cr0 HQ.out.r
      have x1 := cr1 HQ.out.r
      have x2 := cr2 HQ.out.r
      have x3 := cr3 HQ.out.r
      have x4 := cr4 HQ.out.r
      have xf : ∀ j, wr.frozen? ⟨w.heap.size + 1, j, none⟩ = false := fun j => fzr HQ.out.r
      go_wp2_with fail
      refine bodyPost_ret (v := .agg #[_, _, _, _, _]) (results_cell_row Tryd.results51 _ _ _ _ _ (0, 0) _ rfl (five_set HQ.out.r _ _ _ _ _) Tryd.underlying23 rfl iIn) rfl ⟨by rw [HF'.out], ?_⟩
      exact ((((HQ.out.g.setCell (by simp) _).setCell (by simp) _).setCell (by simp) _).setCell (by simp) _).setCell (by simp) _
end Go.Proofs.YtkdghgiajifbdaaDoor.As
