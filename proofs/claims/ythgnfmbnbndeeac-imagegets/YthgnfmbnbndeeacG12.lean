/-
  Ige, Igt, IgW: texts of ours that lie in one file.
-/
import Derived.Test.YthgnfmbnbndeeacG10
import Derived.Test.YthgnfmbnbndeeacG11
/-
  What ferrybridgeref13.Get answers of bytes whose numbers are such as a machine has.
-/
namespace Go.Proofs.Ythgnfmbnbndeeac.Im
open Go.ChangeShapes Go.WideShapes Go.ChangeAt Go.RowKit Mm Hh Hc Mc
set_option linter.unusedVariables false
set_option linter.unusedSimpArgs false

/-- The machine that is being made, at block w0's size + 2; ahead of it the result's block and an empty one. -/
structure Rg (w0 w : World) (a : Option Addr) (n c : Nat) (b : Option Addr) (d : Nat) (hs : List Hv) : Prop where
  gr : Gr w0 w
  rb : w.heap[w0.heap.size]? = some (.cells #[.slice none 0 0, .slice none 0 0] 25 (0, 0))
  nb : w.heap[w0.heap.size + 1]? = some (.cells #[.slice none 0 0, .slice none 0 0] 25 (0, 0))
  mb : w.heap[w0.heap.size + 1 + 1]? = some (.cells #[.slice a n c, .slice b hs.length d] 25 (0, 0))
  row : w.ownsRow w0.heap.size 48 37 (.slice b hs.length d) hs.length (hC hs)
  ok : ∀ h ∈ hs, h.Ok
section
variable {w0 w w' : World} {a b : Option Addr} {n c d : Nat} {hs : List Hv}
theorem Rg.of (A : Rg w0 w a n c b d hs) (G : Gr w w') : Rg w0 w' a n c b d hs :=
  ⟨A.gr.trans G, Hr.heap_of_gr G A.rb, Hr.heap_of_gr G A.nb, Hr.heap_of_gr G A.mb, owns_gr A.row G, A.ok⟩
/-- A hart appended: behind the append, and behind the store. -/
theorem Rg.app (A : Rg w0 w a n c b d hs) {h : Hv} (o : h.Ok) {v' : Value} {k : Nat} (hk : hs.length = k) (q : w.grownBy w' (Value.slice b k d).ownBlock) (O : w'.ownsRow w0.heap.size 48 37 v' (k + 1) (hC hs ++ hL h)) :
    ∃ b' d', v' = .slice b' (k + 1) d' ∧ w'.heap[w0.heap.size + 1 + 1]? = some (.cells #[.slice a n c, .slice b k d] 25 (0, 0)) ∧ Rg w0 (w'.setCell ⟨w0.heap.size + 1 + 1, 1, none⟩ v') a n c b' d' (hs ++ [h]) := by
  subst hk
  have ob : ∀ k, (Value.slice b hs.length d).ownBlock = some k → w0.heap.size ≤ k ∧ ∃ cur, w.heap[k]? = some (.cells cur 48 (0, 0)) := fun k hk => by
    rcases A.row.2 with ⟨h0, _⟩ | ⟨g', cap, cur, hv, hb, hg, _⟩
    · rw [h0] at hk; cases hk
    · rw [hv] at hk
      injection hk with hk
      subst hk
      exact ⟨hb, cur, hg⟩
  obtain ⟨b', d', rfl⟩ := own_slice' O
  have kp : ∀ (k : Nat) (o : Array Value) (t : Nat) (f : Nat × Nat), t ≠ 48 → w.heap[k]? = some (.cells o t f) → w'.heap[k]? = w.heap[k]? := fun k o t f ht hk =>
    q.block k (gs hk).1 (fun hh => by
      obtain ⟨_, cur, hg⟩ := ob k hh.symm
      exact ne_of_types hk hg ht rfl)
  have e1 := (kp _ _ _ _ (by decide) A.mb).trans A.mb
  refine ⟨b', d', rfl, e1, ?_, (hso (by simp; omega)).trans ((kp _ _ _ _ (by decide) A.rb).trans A.rb), (hso (by simp)).trans ((kp _ _ _ _ (by decide) A.nb).trans A.nb), by rw [hss e1]; simp, ?_, ?_⟩
  · exact (Gr.grown A.gr q (fun k hk => (ob k hk).1)).setCell (p := ⟨w0.heap.size + 1 + 1, 1, none⟩) (by simp; omega) _
  · rw [List.length_append, List.length_singleton, hC_snoc]
    exact owns_to O fun k o f hk => hso (ne_of_types hk e1 (by decide))
  · intro h' hm
    rcases List.mem_append.1 hm with hm | hm
    · exact A.ok h' hm
    · rw [List.mem_singleton.1 hm]; exact o
end
theorem no_cd {b : List UInt8} (h : ∀ mn hn, ¬ Cd b mn hn) : gotB b = false := by
  cases hg : gotB b with
  | false => rfl
  | true =>
    obtain ⟨mn, hn, C⟩ := got_cd hg
    exact absurd C (h mn hn)
theorem alloc2 {w : World} {N M : Obj} : ((w.alloc N).alloc M).heap[w.heap.size]? = some N := heap_alloc2_old w _ _
/-- A hart that is being made in a block of its own, behind all that was there. -/
structure Rk (u W : World) (h : Hv) : Prop where
  gr : Gr u W
  hb : W.heap[u.heap.size]? = some (.cells (hA h) 48 (0, 0))
  ok : h.Ok
theorem Rk.set {u W : World} {i : Nat} {v : Value} {h h' : Hv} (A : Rk u W h) (o : h'.Ok) (q : (hL h).set i v = hL h') : Rk u (W.setCell ⟨u.heap.size, i, none⟩ v) h' :=
  ⟨A.gr.setCell (p := ⟨u.heap.size, i, none⟩) (Nat.le_refl _) v, set_h A.hb q, o⟩
theorem Rk.cell {u W : World} {h : Hv} (A : Rk u W h) {i : Nat} (hi : i < 37) : ∃ v, W.cell? ⟨u.heap.size, i, none⟩ = some v ∧ W.frozen? ⟨u.heap.size, i, none⟩ = false := by
  refine ⟨(hA h)[i]'(by rw [hA_size A.ok]; exact hi), ?_, fzr A.hb⟩
  rw [cr A.hb, Array.getElem?_eq_getElem (by rw [hA_size A.ok]; exact hi)]
/-- A hart of which the first registers are read. -/
def zh (b : List UInt8) (fr j : Nat) : Hv := ⟨ptF (rdR b fr) j, 0, false, 0, 0, 0⟩
theorem zh0 (b : List UInt8) (fr : Nat) : zh b fr 0 = ⟨List.replicate 32 0, 0, false, 0, 0, 0⟩ := by unfold zh ptF; simp
theorem built_h : Try.prog.built 48 [] = some (hA ⟨List.replicate 32 0, 0, false, 0, 0, 0⟩) := by kernel_rfl
theorem z4 : fit4 0 := ⟨by omega, by omega⟩
theorem zh_ok (b : List UInt8) (fr : Nat) {j : Nat} (hj : j ≤ 32) : (zh b fr j).Ok := hv_ok (ptF_len _ hj) (ptF_mem (rdR_u4 b fr)) z4 z4
theorem zh_set (b : List UInt8) (fr : Nat) {j : Nat} (hj : j < 32) : (hL (zh b fr j)).set j (.int .u32 (rdR b fr j)) = hL (zh b fr (j + 1)) := by
  rw [set_reg (zh_ok b fr (by omega)) hj]
  unfold zh
  simp only [ptF_set _ hj]
set_option maxHeartbeats 4000000 in
set_option maxRecDepth 100000 in
theorem GetR_e {w : World} {a : Option Addr} {n c mn hn' : Nat} {b : List UInt8} (S : Sb w a n c b) (hn : n ≤ 140737488351232) (C : Cd b mn hn') :
    Calls Try.prog 15 #[.slice a n c] w fun e w' => GP w (gotB b) (mrM ⟨b, false⟩) (mrH ⟨b, false⟩) e w' := by
  have hl := S.mem.len
  have hnc := S.le
  have q1 := C.l3
  have q2 := C.m1
  have hh4 := C.h4
  have hh1 := C.h1
  obtain ⟨ab, ao, rfl, -, -⟩ := S.mem.spot (by omega)
  have HS : Hid (Sb w (some ⟨ab, ao, none⟩) n c b) := S
  have HL : Hid (b.length = n) := hl
  have HNn : Hid (n = 8 + mn + 148 * hn') := by unfold Hid; omega
  have hc8 : 8 ≤ c := by omega
  have hc4 : ¬ c = 4 := by omega
  have c3 : ¬ (4096 : Int) < (mn : Int) := by omega
  have c4 : ¬ (n : Int) < 4 + (mn : Int) := by omega
  have d1 : ¬ (hn' : Int) < 1 := by omega
  have d2 : ¬ 4 < (hn' : Int) := by omega
  have d3 : ((n : Int) != 8 + (mn : Int) + 148 * (hn' : Int)) = false := by rw [bne_eq_false_iff_eq]; omega
  have hmn : mn ≤ 4096 := q2
  have HZ2 : Hid (∀ W : World, Gr w W → Calls Try.prog 30 #[.slice (some ⟨ab, ao, none⟩) n c, .int .i64 0] W fun e w' => e = .returned (.int .i64 (mn : Int)) ∧ w' = W) := fun W G => by
    have := at_yes (k := 0) (c := c) (S.mem.of G) hn (by omega) (by omega)
    rw [C.e1] at this
    exact this
  have HZ4 : Hid (∀ W : World, Gr w W → Calls Try.prog 30 #[.slice (some ⟨ab, ao, none⟩) n c, .int .i64 (4 + (mn : Int))] W fun e w' => e = .returned (.int .i64 (hn' : Int)) ∧ w' = W) := fun W G => by
    have := at_yes (k := 4 + mn) (c := c) (S.mem.of G) hn (by omega) (by omega)
    rw [C.e2, show ((4 + mn : Nat) : Int) = 4 + (mn : Int) by omega] at this
    exact this
  have HAt : Hid (∀ (W : World) (fr j : Nat), Gr w W → fr + 4 * j + 4 ≤ n → fr + 4 * j ≤ 1000000 → Calls Try.prog 30 #[.slice (some ⟨ab, ao, none⟩) n c, .int .i64 ((fr : Int) + 4 * (j : Int))] W fun e w' => e = .returned (.int .i64 (rdR b fr j)) ∧ w' = W) := fun W fr j G h1 h2 => by
    have := at_yes (k := fr + 4 * j) (c := c) (S.mem.of G) hn h2 h1
    rwa [show ((fr + 4 * j : Nat) : Int) = (fr : Int) + 4 * (j : Int) by omega] at this
  have HGI : Hid (gotB b = (mayM (rdM b mn).length (rdL b (8 + mn) hn') && decide (mB (rdM b mn) (rdL b (8 + mn) hn') = b))) := got_iff C
  have HGM : Hid (gotB b = true → mrM ⟨b, false⟩ = rdM b mn ∧ mrH ⟨b, false⟩ = rdL b (8 + mn) hn') := got_m C
  generalize gotB b = yes at *
  generalize mrM ⟨b, false⟩ = mm at *
  generalize mrH ⟨b, false⟩ = hq at *
  have A0 : Rg w (((w.alloc (.cells #[.slice none 0 0, .slice none 0 0] 25)).alloc (.cells #[.slice none 0 0, .slice none 0 0] 25)).alloc (.cells #[.slice (some ⟨ab, ao + 4, none⟩) mn (c - 4), .slice none 0 0] 25)) (some ⟨ab, ao + 4, none⟩) mn (c - 4) none 0 [] :=
    ⟨(((Gr.refl _).alloc _).alloc _).alloc _, Hr.heap_of_gr ((Gr.refl _).alloc _) (heap_alloc2_old w _ _), Hr.heap_of_gr ((Gr.refl _).alloc _) (heap_alloc2_new w _ _), by
      have := heap_alloc_new ((w.alloc (.cells #[.slice none 0 0, .slice none 0 0] 25)).alloc (.cells #[.slice none 0 0, .slice none 0 0] 25)) (.cells #[.slice (some ⟨ab, ao + 4, none⟩) mn (c - 4), .slice none 0 0] 25)
      simpa using this, ⟨rfl, .inl ⟨rfl, rfl⟩⟩, fun h hm => (by cases hm)⟩
  have HA0 : Hid (Rg w _ (some ⟨ab, ao + 4, none⟩) mn (c - 4) none 0 []) := A0
  clear A0 S C hl q1 q2
  go_enter Try.func15, Try.ntmps15
  go_wp2_with fail
  refine (HZ2.out _ (((Gr.refl _).alloc _).alloc _)).mono ?_
  rintro e w1 ⟨rfl, rfl⟩
  clear HZ2
  go_wp2_with fail
  refine (HZ4.out _ ((((Gr.refl _).alloc _).alloc _).alloc _)).mono ?_
  rintro e w1 ⟨rfl, rfl⟩
  clear HZ4
  go_wp2_with fail
  clear c3 c4 d1 d2 d3
  go_loopw [8] (fun i wr => ∃ k : Nat, k ≤ hn' ∧ i = .int .i64 k ∧ ∃ hb hd, Rg w wr (some ⟨ab, ao + 4, none⟩) mn (c - 4) hb hd (rdL b (8 + mn) k)) (fun i _ => hn' - (intOf i).toNat)
  case atStart => exact ⟨0, Nat.zero_le _, rfl, none, 0, HA0.out⟩
  case round =>
    obtain ⟨k, hk, rfl, hb, hd, A⟩ := hrel
    have HA : Hid (Rg w wr (some ⟨ab, ao + 4, none⟩) mn (c - 4) hb hd (rdL b (8 + mn) k)) := A
    clear A HA0
    by_cases hlt : k < hn'
    · have hlt' : (k : Int) < (hn' : Int) := by omega
      obtain ⟨fr, hfr⟩ : ∃ fr, fr = 8 + mn + 148 * k := ⟨_, rfl⟩
      have hfr' : 8 + (mn : Int) + 148 * (k : Int) = (fr : Int) := by omega
      have HFr : Hid (fr = 8 + mn + 148 * k) := hfr
      have hfb : fr ≤ 10000 := by omega
      have HFn : Hid (fr + 148 ≤ n) := by have := HNn.out; unfold Hid; omega
      clear hfr
      rename World => u0
      obtain ⟨D0, hD0⟩ : ∃ D, D = hA (zh b fr 0) := ⟨_, rfl⟩
      have HD0 : Hid (D0 = hA (zh b fr 0)) := hD0
      have HBu : Hid (Try.prog.built 48 [] = some D0) := by unfold Hid; rw [hD0, zh0]; exact built_h
      have HSZ0 : Hid (D0.size = 37) := by unfold Hid; rw [hD0]; exact hA_size (zh_ok b fr (by omega))
      have HONE0 : Hid (D0.all (·.oneCell') = true) := by unfold Hid; rw [hD0]; exact one_hA _
      have HK0 : Hid (Rk u0 ((u0.alloc (.cells (hA ⟨List.replicate 32 0, 0, false, 0, 0, 0⟩) 48)).setRow u0.heap.size D0) (zh b fr 0)) := ⟨below_setRow ((Gr.refl _).alloc _) (Nat.le_refl _) _, (by rw [← hD0]; exact srh (heap_alloc_new u0 _)), zh_ok b fr (by omega)⟩
      clear hD0
      go_wp2_with (first
        | (refine wpList_buildTo rfl 48 _ rfl _ rfl D0 (by have := HBu.out; simp [Act.eval, Act.put]; exact this) ?_)
        | (refine wpList_store_row rfl 48 _ _ rfl u0.heap.size D0 rfl rfl 48 (hA ⟨List.replicate 32 0, 0, false, 0, 0, 0⟩) ?r3 (by rw [HSZ0.out]; exact iH) (by rw [HSZ0.out]; rfl) HONE0.out ?_; (case r3 => exact heap_alloc_new u0 _)))
      go_loopw [11] (fun i W => ∃ j : Nat, j ≤ 32 ∧ i = .int .i64 j ∧ Rk u0 W (zh b fr j)) (fun i _ => 32 - (intOf i).toNat)
      case atStart => exact ⟨0, Nat.zero_le _, rfl, HK0.out⟩
      case round =>
        obtain ⟨j, hj, rfl, K⟩ := hrel
        have HK : Hid (Rk u0 wr (zh b fr j)) := K
        clear K HK0 HD0 HBu HSZ0 HONE0
        by_cases hl2 : j < 32
        · have hl2' : (j : Int) < 32 := by omega
          have HC : Hid (Calls Try.prog 30 #[.slice (some ⟨ab, ao, none⟩) n c, .int .i64 ((fr : Int) + 4 * (j : Int))] wr fun e w' => e = .returned (.int .i64 (rdR b fr j)) ∧ wr = w') := (HAt.out wr fr j (HA.out.gr.trans HK.out.gr) (by have := HFn.out; omega) (by omega)).mono (by rintro e w' ⟨h1, h2⟩; exact ⟨h1, h2.symm⟩)
          have ru := rdR_u4 b fr j
          have r0 := ru.1
          have r1 := ru.2
          obtain ⟨v, c0, f0⟩ := HK.out.cell (i := j) (by omega)
          have HK1 : Hid (Rk u0 (wr.setCell ⟨u0.heap.size, j, none⟩ (.int .u32 (rdR b fr j))) (zh b fr (j + 1))) := HK.out.set (zh_ok b fr (by omega)) (zh_set b fr hl2)
          clear ru HK
          generalize rdR b fr j = x at *
          go_wp2_with fail
          refine HC.out.mono ?_
          rintro e w1 ⟨rfl, rfl⟩
          go_wp2_with fail
          go_roundw
          case rel => exact ⟨j + 1, by omega, by go_num, HK1.out⟩
          case measure => simp [intOf]; omega
        · have dj : ¬ (j : Int) < 32 := by omega
          have HK1 : Hid (Rk u0 wr (zh b fr 32)) := by have := HK.out; rw [show j = 32 by omega] at this; exact this
          clear HK hl2 hj
          obtain ⟨x1, e1⟩ : ∃ x, x = rdR b fr 32 := ⟨_, rfl⟩
          have b1 : fit4 x1 := by rw [e1]; exact rdR_u4 _ _ _
          obtain ⟨x2, e2⟩ : ∃ x, x = rdR b fr 33 := ⟨_, rfl⟩
          have b2 : fit4 x2 := by rw [e2]; exact rdR_u4 _ _ _
          obtain ⟨x3, e3⟩ : ∃ x, x = rdR b fr 34 := ⟨_, rfl⟩
          have b3 : fit4 x3 := by rw [e3]; exact rdR_u4 _ _ _
          obtain ⟨x4, e4⟩ : ∃ x, x = rdR b fr 35 := ⟨_, rfl⟩
          have b4 : fit4 x4 := by rw [e4]; exact rdR_u4 _ _ _
          obtain ⟨x5, e5⟩ : ∃ x, x = rdR b fr 36 := ⟨_, rfl⟩
          have b5 : fit4 x5 := by rw [e5]; exact rdR_u4 _ _ _
          have HN1 : Hid (∀ W : World, Gr u0 W → Calls Try.prog 30 #[.slice (some ⟨ab, ao, none⟩) n c, .int .i64 ((fr : Int) + 128)] W fun e w' => e = .returned (.int .i64 x1) ∧ W = w') := fun W G => by rw [e1]; exact (HAt.out W fr 32 (HA.out.gr.trans G) (by have := HFn.out; omega) (by omega)).mono (by rintro e w' ⟨h1, h2⟩; exact ⟨h1, h2.symm⟩)
          have HN2 : Hid (∀ W : World, Gr u0 W → Calls Try.prog 30 #[.slice (some ⟨ab, ao, none⟩) n c, .int .i64 ((fr : Int) + 132)] W fun e w' => e = .returned (.int .i64 x2) ∧ W = w') := fun W G => by rw [e2]; exact (HAt.out W fr 33 (HA.out.gr.trans G) (by have := HFn.out; omega) (by omega)).mono (by rintro e w' ⟨h1, h2⟩; exact ⟨h1, h2.symm⟩)
          have HN3 : Hid (∀ W : World, Gr u0 W → Calls Try.prog 30 #[.slice (some ⟨ab, ao, none⟩) n c, .int .i64 ((fr : Int) + 136)] W fun e w' => e = .returned (.int .i64 x3) ∧ W = w') := fun W G => by rw [e3]; exact (HAt.out W fr 34 (HA.out.gr.trans G) (by have := HFn.out; omega) (by omega)).mono (by rintro e w' ⟨h1, h2⟩; exact ⟨h1, h2.symm⟩)
          have HN4 : Hid (∀ W : World, Gr u0 W → Calls Try.prog 30 #[.slice (some ⟨ab, ao, none⟩) n c, .int .i64 ((fr : Int) + 140)] W fun e w' => e = .returned (.int .i64 x4) ∧ W = w') := fun W G => by rw [e4]; exact (HAt.out W fr 35 (HA.out.gr.trans G) (by have := HFn.out; omega) (by omega)).mono (by rintro e w' ⟨h1, h2⟩; exact ⟨h1, h2.symm⟩)
          have HN5 : Hid (∀ W : World, Gr u0 W → Calls Try.prog 30 #[.slice (some ⟨ab, ao, none⟩) n c, .int .i64 ((fr : Int) + 144)] W fun e w' => e = .returned (.int .i64 x5) ∧ W = w') := fun W G => by rw [e5]; exact (HAt.out W fr 36 (HA.out.gr.trans G) (by have := HFn.out; omega) (by omega)).mono (by rintro e w' ⟨h1, h2⟩; exact ⟨h1, h2.symm⟩)
          have HV : Hid (rdH b fr = ⟨ptF (rdR b fr) 32, x1, (x2 == 1), x3, x4, x5⟩) := by unfold Hid rdH; rw [e1, e2, e3, e4, e5]
          have HO : Hid (∀ a b' c d e, fit4 a → fit4 c → (⟨ptF (rdR b fr) 32, a, b', c, d, e⟩ : Hv).Ok) := fun a b' c d e ha hc => hv_ok (ptF_len _ (Nat.le_refl _)) (ptF_mem (rdR_u4 b fr)) ha hc
          have HX1 : Hid (fit4 x1) := b1
          have HX3 : Hid (fit4 x3) := b3
          have l1 := b1.1
          have u1 := b1.2
          have l2 := b2.1
          have u2 := b2.2
          have l3 := b3.1
          have u3 := b3.2
          have l4 := b4.1
          have u4 := b4.2
          have l5 := b5.1
          have u5 := b5.2
          have HK1 : Hid (Rk u0 wr ⟨ptF (rdR b fr) 32, 0, false, 0, 0, 0⟩) := HK1.out
          clear e1 b1 e2 b2 e3 b3 e4 b4 e5 b5
          obtain ⟨rs, hrs⟩ : ∃ q, q = ptF (rdR b fr) 32 := ⟨_, rfl⟩
          rw [← hrs] at HV HO HK1
          clear hrs
          go_wp2_with fail
          refine (HN1.out _ HK1.out.gr).mono ?_
          rintro e w1 ⟨rfl, rfl⟩
          obtain ⟨v1, c0, f0⟩ := HK1.out.cell (i := 32) (by omega)
          have HK2 : Hid (Rk u0 (wr.setCell ⟨u0.heap.size, 32, none⟩ (.int .u32 x1)) ⟨rs, x1, false, 0, 0, 0⟩) := HK1.out.set (HO.out _ _ _ _ _ HX1.out z4) (set_pc HK1.out.ok _)
          clear HK1 HN1
          go_wp2_with fail
          generalize wr.setCell ⟨u0.heap.size, 32, none⟩ (.int .u32 x1) = y1 at *
          clear c0 f0
          go_wp2_with fail
          refine (HN2.out _ HK2.out.gr).mono ?_
          rintro e w1 ⟨rfl, rfl⟩
          obtain ⟨v2, c0, f0⟩ := HK2.out.cell (i := 33) (by omega)
          have HK3 : Hid (Rk u0 (y1.setCell ⟨u0.heap.size, 33, none⟩ (.bool (x2 == 1))) ⟨rs, x1, (x2 == 1), 0, 0, 0⟩) := HK2.out.set (HO.out _ _ _ _ _ HX1.out z4) (set_held HK2.out.ok _)
          clear HK2 HN2
          go_wp2_with fail
          generalize y1.setCell ⟨u0.heap.size, 33, none⟩ (.bool (x2 == 1)) = y2 at *
          clear c0 f0
          go_wp2_with fail
          refine (HN3.out _ HK3.out.gr).mono ?_
          rintro e w1 ⟨rfl, rfl⟩
          obtain ⟨v3, c0, f0⟩ := HK3.out.cell (i := 34) (by omega)
          have HK4 : Hid (Rk u0 (y2.setCell ⟨u0.heap.size, 34, none⟩ (.int .u32 x3)) ⟨rs, x1, (x2 == 1), x3, 0, 0⟩) := HK3.out.set (HO.out _ _ _ _ _ HX1.out HX3.out) (set_heldAt HK3.out.ok _)
          clear HK3 HN3
          go_wp2_with fail
          generalize y2.setCell ⟨u0.heap.size, 34, none⟩ (.int .u32 x3) = y3 at *
          clear c0 f0
          go_wp2_with fail
          refine (HN4.out _ HK4.out.gr).mono ?_
          rintro e w1 ⟨rfl, rfl⟩
          obtain ⟨v4, c0, f0⟩ := HK4.out.cell (i := 35) (by omega)
          have HK5 : Hid (Rk u0 (y3.setCell ⟨u0.heap.size, 35, none⟩ (.int .i64 x4)) ⟨rs, x1, (x2 == 1), x3, x4, 0⟩) := HK4.out.set (HO.out _ _ _ _ _ HX1.out HX3.out) (set_state HK4.out.ok _)
          clear HK4 HN4
          go_wp2_with fail
          generalize y3.setCell ⟨u0.heap.size, 35, none⟩ (.int .i64 x4) = y4 at *
          clear c0 f0
          go_wp2_with fail
          refine (HN5.out _ HK5.out.gr).mono ?_
          rintro e w1 ⟨rfl, rfl⟩
          obtain ⟨v5, c0, f0⟩ := HK5.out.cell (i := 36) (by omega)
          have HK6 : Hid (Rk u0 (y4.setCell ⟨u0.heap.size, 36, none⟩ (.int .i64 x5)) ⟨rs, x1, (x2 == 1), x3, x4, x5⟩) := HK5.out.set (HO.out _ _ _ _ _ HX1.out HX3.out) (set_cause HK5.out.ok _)
          obtain ⟨hh, ehh⟩ : ∃ q : Hv, q = ⟨rs, x1, (x2 == 1), x3, x4, x5⟩ := ⟨_, rfl⟩
          rw [← ehh] at HV HK6
          have HSn : Hid (rdL b (8 + mn) (k + 1) = rdL b (8 + mn) k ++ [hh]) := by
            unfold Hid
            rw [← HV.out, HFr.out]
            rfl
          have HA6 : Hid (Rg w (y4.setCell ⟨u0.heap.size, 36, none⟩ (.int .i64 x5)) (some ⟨ab, ao + 4, none⟩) mn (c - 4) hb hd (rdL b (8 + mn) k)) := HA.out.of HK6.out.gr
          have HLk : Hid ((rdL b (8 + mn) k).length = k) := rdL_len _ _ _
          have HB : Hid ((y4.setCell ⟨u0.heap.size, 36, none⟩ (.int .i64 x5)).heap[w.heap.size + 1 + 1]? = some (.cells #[.slice (some ⟨ab, ao + 4, none⟩) mn (c - 4), .slice hb k hd] 25 (0, 0))) := by have := HA6.out.mb; rw [HLk.out] at this; exact this
          have HO1 : Hid ((y4.setCell ⟨u0.heap.size, 36, none⟩ (.int .i64 x5)).ownsRow w.heap.size 48 37 (.slice hb k hd) k (hC (rdL b (8 + mn) k))) := by have := HA6.out.row; rw [HLk.out] at this; exact this
          have HB4 : Hid (y4.heap[w.heap.size + 1 + 1]? = some (.cells #[.slice (some ⟨ab, ao + 4, none⟩) mn (c - 4), .slice hb k hd] 25 (0, 0))) := by have := (HA.out.of HK5.out.gr).mb; rw [HLk.out] at this; exact this
          have z1 := cr1 HB4.out
          have hlo : w.heap.size + 1 + 1 < y4.heap.size := (gs HB4.out).1
          have hlo2 : w.heap.size + 1 + 1 < u0.heap.size := (gs HA.out.mb).1
          clear HN5 HK5 HB4
          have HOk : Hid hh.Ok := HK6.out.ok
          have HHb : Hid ((y4.setCell ⟨u0.heap.size, 36, none⟩ (.int .i64 x5)).heap[u0.heap.size]? = some (.cells (hL hh).toArray 48 (0, 0))) := HK6.out.hb
          obtain ⟨i0, hi, hz0, hz1, hz2⟩ := infoHd
          have HAs : Hid ((hL hh).toArray.size = 37) := by unfold Hid; rw [List.size_toArray]; exact hL_len HOk.out
          have HOne : Hid (∀ u ∈ hL hh, u.oneCell' = true) := one_hL hh
          have hl37 : Hid ((hL hh).length = 37) := hL_len HOk.out
          have hk4 : k ≤ 4 := by omega
          clear HK6 HV HO HX1 HX3 ehh HA
          go_wp2_with (first
            | (refine wpList_load_row rfl 48 _ rfl u0.heap.size rfl 48 (hL hh).toArray (0, 0) _ ?r2 Try.underlying48 rfl (by rw [HAs.out]; exact iH) ?_; (case r2 => exact HHb.out))
            | (refine wpList_slice1 rfl 23 48 (.tmp 110) rfl (hL hh).toArray 37 rfl HAs.out Try.underlying23 iHz (by decide) (by decide) ?_)
            | (at_builtin; refine wpList_append_src (base := w.heap.size) (n := k) (m := 1) rfl (.tmp 109) (.tmp 111) rfl Try.underlying23 hi hz0 hz1 hz2 rfl (by decide) rfl rfl (owns_gr HO1.out ((Gr.refl _).alloc _)) (src_one (t := 48) (f := (0, 0)) hl37.out (heap_alloc_new _ _)) HOne.out (by unfold maxLen; omega) (by omega) (by simp; omega) ?_; intro v' w' hown hgrow; obtain ⟨b', d', ev, e9, A9⟩ := Rg.app (HA6.out.of ((Gr.refl _).alloc _)) HOk.out HLk.out hgrow hown; subst ev; have HA9 : Hid (Rg w (w'.setCell ⟨w.heap.size + 1 + 1, 1, none⟩ (.slice b' (k + 1) d')) (some ⟨ab, ao + 4, none⟩) mn (c - 4) b' d' (rdL b (8 + mn) k ++ [hh])) := A9; have q1 := cr1 e9; have qf : w'.frozen? ⟨w.heap.size + 1 + 1, 1, none⟩ = false := fzr e9; clear e9 A9 hown hgrow))
          exact ⟨⟨k + 1, by omega, by go_num, b', d', by rw [HSn.out]; exact HA9.out⟩, by simp [intOf]; omega⟩
    · have hlt' : ¬ (k : Int) < (hn' : Int) := by omega
      have A := HA.out
      rw [show k = hn' by omega] at A
      have HHl : Hid ((rdL b (8 + mn) hn').length = hn') := rdL_len _ _ _
      have HMe : Hid (Mem w (some ⟨ab, ao + 4, none⟩) mn (rdM b mn)) := mem_take (mem_drop (n := 4) HS.out.mem (by have := HNn.out; omega)) (by have := HNn.out; omega)
      have HMl : Hid ((rdM b mn).length = mn) := HMe.out.len
      have HHs : Hid (Hs wr hb hn' (rdL b (8 + mn) hn')) := by
        have r := A.row
        rw [HHl.out] at r
        obtain ⟨a', c', e, h⟩ := hs_own A.ok HHl.out r
        injection e with e1 e2 e3
        rw [← e1] at h
        exact h
      have HMa : Hid (∀ W : World, Gr wr W → Ma W (some ⟨ab, ao + 4, none⟩) mn (c - 4) hb hn' hd (rdM b mn) (rdL b (8 + mn) hn')) := fun W G => ⟨HMe.out.of (A.gr.trans G), (fun h => by cases h), HHs.out.of G, by omega, by omega⟩
      have HB : Hid (wr.heap[w.heap.size + 1 + 1]? = some (.cells #[.slice (some ⟨ab, ao + 4, none⟩) mn (c - 4), .slice hb hn' hd] 25 (0, 0))) := by have := A.mb; rw [HHl.out] at this; exact this
      have HRB : Hid (wr.heap[w.heap.size]? = some (.cells #[.slice none 0 0, .slice none 0 0] 25 (0, 0))) := A.rb
      have HNB : Hid (wr.heap[w.heap.size + 1]? = some (.cells #[.slice none 0 0, .slice none 0 0] 25 (0, 0))) := A.nb
      have HGr : Hid (Gr w wr) := A.gr
      clear HA A hlt hk HHs HMe HAt
      generalize rdL b (8 + mn) hn' = hs at *
      generalize rdM b mn = m at *
      have HNO : Hid (yes = false → ∀ (W : World) (tmps : Array Value), tmps.getD 2 undef = .pointer (some ⟨w.heap.size, 0, none⟩) → tmps.getD 3 undef = .int .i64 2 → Gr w W → W.heap[w.heap.size]? = some (.cells #[.slice none 0 0, .slice none 0 0] 25 (0, 0)) → bodyPost Try.prog Try.f15 (fun e w' => GP w yes mm hq e w') Exit.ret ⟨tmps, []⟩ W) := fun hy W tmps t2 t3 G e =>
        bodyPost_ret (v := .tuple #[.agg #[.slice none 0 0, .slice none 0 0], .int .i64 2]) (Hr.results_cell_tmp' Try.results15 _ _ _ _ _ (0, 0) _ _ t2 t3 e Try.underlying25 rfl iMc) rfl ⟨G, .inr ⟨hy, rfl⟩⟩
      have HW1 : Hid (∀ W : World, Gr wr W → Calls Try.prog 12 #[.agg #[.slice (some ⟨ab, ao + 4, none⟩) mn (c - 4), .slice hb hn' hd], .slice none 0 0] W fun e w' => e = .returned (.int .i64 (pE m hs)) ∧ Gr W w') := fun W G => Wrong_nil (HMa.out W G)
      have p0 := cr0 HB.out
      have p1 := cr1 HB.out
      rcases pE_or m hs with ⟨h0, hm⟩ | ⟨h0, hm⟩
      · rw [h0] at HW1
        have HBy : Hid (∀ W : World, Gr wr W → Calls Try.prog 13 #[.agg #[.slice (some ⟨ab, ao + 4, none⟩) mn (c - 4), .slice hb hn' hd]] W fun e w' => e = .returned (.string (Mr.sof (mB m hs))) ∧ Gr W w') := fun W G => Bytes_any (HMa.out W G) hm
        rw [hm, Bool.true_and] at HGI
        obtain ⟨bb, hbb⟩ : ∃ q, q = decide (mB m hs = b) := ⟨_, rfl⟩
        have dd : ((Mr.sof (mB m hs)).toList == (Mr.sof b).toList) = bb := by rw [Mr.sof_eq]; exact hbb.symm
        rw [← hbb] at HGI
        clear h0 hm hbb
        generalize mB m hs = B at *
        go_wp2_with fail
        refine wp_region_held_drew (S := fun W => Gr wr W) (by kernel_rfl) ?_ (fun hHeld => ?_)
        · exact (Gr.refl _).drew
        have HS0 : Hid _ := hHeld
        clear hHeld
        refine wpAnyH_take (i := 0) (v := .agg #[.slice (some ⟨ab, ao + 4, none⟩) mn (c - 4), .slice hb hn' hd]) rfl (by kernel_rfl) (by kernel_rfl) (by kernel_rfl) (fun _ _ _ h => h) (Or.inl ⟨by rfl, fun W hW => by have a0 := cr0 (Hr.heap_of_gr hW HB.out); have a1 := cr1 (Hr.heap_of_gr hW HB.out); go_simp⟩) HS0.out ?_
        simp only [List.getElem_toArray, List.getElem_cons_succ, List.getElem_cons_zero, Act.put, List.setIfInBounds_toArray, List.set_cons_zero, List.set_cons_succ]
        refine wpAnyH_ready (rs := [1]) (by kernel_rfl) (by simp) ?_
        refine AllReadyH.cons rfl (fun K hK => ?_) AllReadyH.nil
        go_simp
        refine (HW1.out _ HS0.out).mono ?_
        rintro e w3 ⟨rfl, G3⟩
        simp only []
        have hS1 : Gr wr w3 := HS0.out.trans G3
        refine hK.out _ _ hS1 (fun hx => ?_)
        clear hK K hx G3 HS0
        have HS0 : Hid (Gr wr w3) := hS1
        clear hS1
        refine wpAnyH_take (i := 2) (v := .bool false) rfl (by kernel_rfl) (by kernel_rfl) (by kernel_rfl) (fun _ _ _ h => h) (Or.inl ⟨by rfl, fun W hW => by go_simp⟩) HS0.out ?_
        simp only [List.getElem_toArray, List.getElem_cons_succ, List.getElem_cons_zero, Act.put, List.setIfInBounds_toArray, List.set_cons_zero, List.set_cons_succ]
        refine wpAnyH_take (i := 3) (v := .bool false) rfl (by kernel_rfl) (by kernel_rfl) (by kernel_rfl) (fun _ _ _ h => h) (Or.inl ⟨by rfl, fun W hW => by go_simp⟩) HS0.out ?_
        simp only [List.getElem_toArray, List.getElem_cons_succ, List.getElem_cons_zero, Act.put, List.setIfInBounds_toArray, List.set_cons_zero, List.set_cons_succ]
        refine wpAnyH_take (i := 4) (v := .agg #[.slice (some ⟨ab, ao + 4, none⟩) mn (c - 4), .slice hb hn' hd]) rfl (by kernel_rfl) (by kernel_rfl) (by kernel_rfl) (fun _ _ _ h => h) (Or.inl ⟨by rfl, fun W hW => by have a0 := cr0 (Hr.heap_of_gr hW HB.out); have a1 := cr1 (Hr.heap_of_gr hW HB.out); go_simp⟩) HS0.out ?_
        simp only [List.getElem_toArray, List.getElem_cons_succ, List.getElem_cons_zero, Act.put, List.setIfInBounds_toArray, List.set_cons_zero, List.set_cons_succ]
        refine wpAnyH_take (i := 6) (v := .slice (some ⟨ab, ao, none⟩) n c) rfl (by kernel_rfl) (by kernel_rfl) (by kernel_rfl) (fun _ _ _ h => h) (Or.inl ⟨by rfl, fun W hW => by go_simp⟩) HS0.out ?_
        simp only [List.getElem_toArray, List.getElem_cons_succ, List.getElem_cons_zero, Act.put, List.setIfInBounds_toArray, List.set_cons_zero, List.set_cons_succ]
        refine wpAnyH_take (i := 7) (v := .string (Mr.sof b)) rfl (by kernel_rfl) (by kernel_rfl) (by kernel_rfl) (fun _ _ _ h => h) (Or.inl ⟨by rfl, fun W hW => by have a := Mr.conv_any c (HS.out.of (HGr.out.trans hW)).mem; go_simp⟩) HS0.out ?_
        simp only [List.getElem_toArray, List.getElem_cons_succ, List.getElem_cons_zero, Act.put, List.setIfInBounds_toArray, List.set_cons_zero, List.set_cons_succ]
        refine wpAnyH_ready (rs := [5]) (by kernel_rfl) (by simp) ?_
        refine AllReadyH.cons rfl (fun K hK => ?_) AllReadyH.nil
        go_simp
        refine (HBy.out _ HS0.out).mono ?_
        rintro e w4 ⟨rfl, G4⟩
        simp only []
        have hS1 : Gr wr w4 := HS0.out.trans G4
        refine hK.out _ _ hS1 (fun hx => ?_)
        clear hK K hx G4 HS0
        have HS0 : Hid (Gr wr w4) := hS1
        clear hS1
        refine wpAnyH_take (i := 8) (v := .bool (!bb)) rfl (by kernel_rfl) (by kernel_rfl) (by kernel_rfl) (fun _ _ _ h => h) (Or.inl ⟨by rfl, fun W hW => by go_simp⟩) HS0.out ?_
        simp only [List.getElem_toArray, List.getElem_cons_succ, List.getElem_cons_zero, Act.put, List.setIfInBounds_toArray, List.set_cons_zero, List.set_cons_succ]
        refine wpAnyH_take (i := 9) (v := .bool (!bb)) rfl (by kernel_rfl) (by kernel_rfl) (by kernel_rfl) (fun _ _ _ h => h) (Or.inl ⟨by rfl, fun W hW => by go_simp⟩) HS0.out ?_
        simp only [List.getElem_toArray, List.getElem_cons_succ, List.getElem_cons_zero, Act.put, List.setIfInBounds_toArray, List.set_cons_zero, List.set_cons_succ]
        refine wpAnyH_done (by kernel_rfl) ?_ _
        have HM3 : Hid (w4.heap[w.heap.size + 1 + 1]? = some (.cells #[.slice (some ⟨ab, ao + 4, none⟩) mn (c - 4), .slice hb hn' hd] 25 (0, 0))) := Hr.heap_of_gr HS0.out HB.out
        have HN3 : Hid (w4.heap[w.heap.size + 1]? = some (.cells #[.slice none 0 0, .slice none 0 0] 25 (0, 0))) := Hr.heap_of_gr HS0.out HNB.out
        have HR3 : Hid (w4.heap[w.heap.size]? = some (.cells #[.slice none 0 0, .slice none 0 0] 25 (0, 0))) := Hr.heap_of_gr HS0.out HRB.out
        have y0 := cr0 HN3.out
        have y1 := cr1 HN3.out
        have q0 := cr0 HR3.out
        have q1 := cr1 HR3.out
        have g0 := cr0 HM3.out
        have g1 := cr1 HM3.out
        have f0 : w4.frozen? ⟨w.heap.size, 0, none⟩ = false := fzr HR3.out
        have f1 : w4.frozen? ⟨w.heap.size, 1, none⟩ = false := fzr HR3.out
        clear p0 p1 dd
        cases bb with
        | false =>
          go_wp2_with fail
          exact HNO.out HGI.out _ _ rfl rfl (two_gr (HGr.out.trans HS0.out) (Nat.le_refl _)) (two_set HR3.out)
        | true =>
          go_wp2_with fail
          refine bodyPost_ret (v := .tuple #[.agg #[.slice (some ⟨ab, ao + 4, none⟩) mn (c - 4), .slice hb hn' hd], .int .i64 0]) (Hr.results_cell_tmp' Try.results15 _ _ _ _ _ (0, 0) _ _ rfl rfl (two_set HR3.out) Try.underlying25 rfl iMc) rfl ⟨two_gr (HGr.out.trans HS0.out) (Nat.le_refl _), .inl ⟨HGI.out, _, rfl, ?_⟩⟩
          obtain ⟨k1, k2⟩ := HGM.out HGI.out
          rw [k1, k2]
          have M4 := HMa.out _ HS0.out
          have e1 := HMl.out
          have e2 := HHl.out
          refine ⟨some ⟨ab, ao + 4, none⟩, c - 4, hb, hd, by rw [e1, e2], (fun h => by cases h), ?_, ?_⟩
          · rw [e1]; exact mem_two M4.mem HR3.out (fun z h => by cases h) (fun z h => by cases h) (fun z h => by cases h)
          · rw [e2]; exact hs_two M4.harts HR3.out
      · rw [h0] at HW1
        have hy : Hid (yes = false) := by unfold Hid; rw [HGI.out, hm]; rfl
        clear h0 hm HGI HGM
        go_wp2_with fail
        refine wp_region_held_drew (S := fun W => Gr wr W) (by kernel_rfl) ?_ (fun hHeld => ?_)
        · exact (Gr.refl _).drew
        have HS0 : Hid _ := hHeld
        clear hHeld
        refine wpAnyH_take (i := 0) (v := .agg #[.slice (some ⟨ab, ao + 4, none⟩) mn (c - 4), .slice hb hn' hd]) rfl (by kernel_rfl) (by kernel_rfl) (by kernel_rfl) (fun _ _ _ h => h) (Or.inl ⟨by rfl, fun W hW => by have a0 := cr0 (Hr.heap_of_gr hW HB.out); have a1 := cr1 (Hr.heap_of_gr hW HB.out); go_simp⟩) HS0.out ?_
        simp only [List.getElem_toArray, List.getElem_cons_succ, List.getElem_cons_zero, Act.put, List.setIfInBounds_toArray, List.set_cons_zero, List.set_cons_succ]
        refine wpAnyH_ready (rs := [1]) (by kernel_rfl) (by simp) ?_
        refine AllReadyH.cons rfl (fun K hK => ?_) AllReadyH.nil
        go_simp
        refine (HW1.out _ HS0.out).mono ?_
        rintro e w3 ⟨rfl, G3⟩
        simp only []
        have hS1 : Gr wr w3 := HS0.out.trans G3
        refine hK.out _ _ hS1 (fun hx => ?_)
        clear hK K hx G3 HS0
        have HS0 : Hid (Gr wr w3) := hS1
        clear hS1
        refine wpAnyH_take (i := 2) (v := .bool true) rfl (by kernel_rfl) (by kernel_rfl) (by kernel_rfl) (fun _ _ _ h => h) (Or.inl ⟨by rfl, fun W hW => by go_simp⟩) HS0.out ?_
        simp only [List.getElem_toArray, List.getElem_cons_succ, List.getElem_cons_zero, Act.put, List.setIfInBounds_toArray, List.set_cons_zero, List.set_cons_succ]
        refine wpAnyH_take (i := 3) (v := .bool true) rfl (by kernel_rfl) (by kernel_rfl) (by kernel_rfl) (fun _ _ _ h => h) (Or.inl ⟨by rfl, fun W hW => by go_simp⟩) HS0.out ?_
        simp only [List.getElem_toArray, List.getElem_cons_succ, List.getElem_cons_zero, Act.put, List.setIfInBounds_toArray, List.set_cons_zero, List.set_cons_succ]
        refine wpAnyH_take (i := 4) (v := undef) rfl (by kernel_rfl) (by kernel_rfl) (by kernel_rfl) (fun _ _ _ h => h) (Or.inr ⟨by rfl, rfl⟩) HS0.out ?_
        simp only [List.getElem_toArray, List.getElem_cons_succ, List.getElem_cons_zero, Act.put, List.setIfInBounds_toArray, List.set_cons_zero, List.set_cons_succ]
        refine wpAnyH_take (i := 5) (v := undef) rfl (by kernel_rfl) (by kernel_rfl) (by kernel_rfl) (fun _ _ _ h => h) (Or.inr ⟨by rfl, rfl⟩) HS0.out ?_
        simp only [List.getElem_toArray, List.getElem_cons_succ, List.getElem_cons_zero, Act.put, List.setIfInBounds_toArray, List.set_cons_zero, List.set_cons_succ]
        refine wpAnyH_take (i := 6) (v := undef) rfl (by kernel_rfl) (by kernel_rfl) (by kernel_rfl) (fun _ _ _ h => h) (Or.inr ⟨by rfl, rfl⟩) HS0.out ?_
        simp only [List.getElem_toArray, List.getElem_cons_succ, List.getElem_cons_zero, Act.put, List.setIfInBounds_toArray, List.set_cons_zero, List.set_cons_succ]
        refine wpAnyH_take (i := 7) (v := undef) rfl (by kernel_rfl) (by kernel_rfl) (by kernel_rfl) (fun _ _ _ h => h) (Or.inr ⟨by rfl, rfl⟩) HS0.out ?_
        simp only [List.getElem_toArray, List.getElem_cons_succ, List.getElem_cons_zero, Act.put, List.setIfInBounds_toArray, List.set_cons_zero, List.set_cons_succ]
        refine wpAnyH_take (i := 8) (v := undef) rfl (by kernel_rfl) (by kernel_rfl) (by kernel_rfl) (fun _ _ _ h => h) (Or.inr ⟨by rfl, rfl⟩) HS0.out ?_
        simp only [List.getElem_toArray, List.getElem_cons_succ, List.getElem_cons_zero, Act.put, List.setIfInBounds_toArray, List.set_cons_zero, List.set_cons_succ]
        refine wpAnyH_take (i := 9) (v := .bool true) rfl (by kernel_rfl) (by kernel_rfl) (by kernel_rfl) (fun _ _ _ h => h) (Or.inl ⟨by rfl, fun W hW => by go_simp⟩) HS0.out ?_
        simp only [List.getElem_toArray, List.getElem_cons_succ, List.getElem_cons_zero, Act.put, List.setIfInBounds_toArray, List.set_cons_zero, List.set_cons_succ]
        refine wpAnyH_done (by kernel_rfl) ?_ _
        have HN3 : Hid (w3.heap[w.heap.size + 1]? = some (.cells #[.slice none 0 0, .slice none 0 0] 25 (0, 0))) := Hr.heap_of_gr HS0.out HNB.out
        have HR3 : Hid (w3.heap[w.heap.size]? = some (.cells #[.slice none 0 0, .slice none 0 0] 25 (0, 0))) := Hr.heap_of_gr HS0.out HRB.out
        have y0 := cr0 HN3.out
        have y1 := cr1 HN3.out
        have q0 := cr0 HR3.out
        have q1 := cr1 HR3.out
        have f0 : w3.frozen? ⟨w.heap.size, 0, none⟩ = false := fzr HR3.out
        have f1 : w3.frozen? ⟨w.heap.size, 1, none⟩ = false := fzr HR3.out
        clear p0 p1
        go_wp2_with fail
        exact HNO.out hy.out _ _ rfl rfl (two_gr (HGr.out.trans HS0.out) (Nat.le_refl _)) (two_set HR3.out)
end Go.Proofs.Ythgnfmbnbndeeac.Im
/-
  What ferrybridgeref13.Get answers.
-/
namespace Go.Proofs.Ythgnfmbnbndeeac.Im
open Go.ChangeShapes Go.WideShapes Go.ChangeAt Go.RowKit Mm Hh Hc Mc
set_option linter.unusedVariables false
set_option linter.unusedSimpArgs false

set_option maxHeartbeats 4000000 in
set_option maxRecDepth 100000 in
theorem GetR_gp {w : World} {a : Option Addr} {n c : Nat} {b : List UInt8} (S : Sb w a n c b) (hn : n ≤ 140737488351232) :
    Calls Try.prog 15 #[.slice a n c] w fun e w' => GP w (gotB b) (mrM ⟨b, false⟩) (mrH ⟨b, false⟩) e w' := by
  have hl := S.mem.len
  have HS : Hid (Sb w a n c b) := S
  have hnc := S.le
  have HL : Hid (b.length = n) := hl
  obtain ⟨yes, hyes⟩ : ∃ y, y = gotB b := ⟨_, rfl⟩
  have HY : Hid (yes = gotB b) := hyes
  rw [← hyes]
  clear hyes hl S
  have HA1 : Hid (∀ (W : World) (k : Nat), Gr w W → k ≤ 1000000 → n < k + 4 → Calls Try.prog 30 #[.slice a n c, .int .i64 (k : Int)] W fun e w' => e = .returned (.int .i64 (-1)) ∧ w' = W) := fun W k G h1 h2 => at_no (HS.out.mem.of G) hn h1 h2
  have HA2 : Hid (∀ (W : World) (k : Nat), Gr w W → k ≤ 1000000 → k + 4 ≤ n → Calls Try.prog 30 #[.slice a n c, .int .i64 (k : Int)] W fun e w' => e = .returned (.int .i64 (raw b k 4)) ∧ w' = W) := fun W k G h1 h2 => at_yes (HS.out.mem.of G) hn h1 h2
  have HNO : Hid (yes = false → ∀ (W : World) (tmps : Array Value), tmps.getD 2 undef = .pointer (some ⟨w.heap.size, 0, none⟩) → tmps.getD 3 undef = .int .i64 2 → Gr w W → W.heap[w.heap.size]? = some (.cells #[.slice none 0 0, .slice none 0 0] 25 (0, 0)) → bodyPost Try.prog Try.f15 (fun e w' => GP w yes (mrM ⟨b, false⟩) (mrH ⟨b, false⟩) e w') Exit.ret ⟨tmps, []⟩ W) := fun hy W tmps t2 t3 G e =>
    bodyPost_ret (v := .tuple #[.agg #[.slice none 0 0, .slice none 0 0], .int .i64 2]) (Hr.results_cell_tmp' Try.results15 _ _ _ _ _ (0, 0) _ _ t2 t3 e Try.underlying25 rfl iMc) rfl ⟨G, .inr ⟨hy, rfl⟩⟩
  have HN2 : Hid (Gr w ((w.alloc (.cells #[.slice none 0 0, .slice none 0 0] 25)).alloc (.cells #[.slice none 0 0, .slice none 0 0] 25)) ∧ ((w.alloc (.cells #[.slice none 0 0, .slice none 0 0] 25)).alloc (.cells #[.slice none 0 0, .slice none 0 0] 25)).heap[w.heap.size]? = some (.cells #[.slice none 0 0, .slice none 0 0] 25 (0, 0))) := ⟨((Gr.refl _).alloc _).alloc _, heap_alloc2_old w _ _⟩
  have HN3 : Hid (∀ o : Obj, Gr w (((w.alloc (.cells #[.slice none 0 0, .slice none 0 0] 25)).alloc (.cells #[.slice none 0 0, .slice none 0 0] 25)).alloc o) ∧ (((w.alloc (.cells #[.slice none 0 0, .slice none 0 0] 25)).alloc (.cells #[.slice none 0 0, .slice none 0 0] 25)).alloc o).heap[w.heap.size]? = some (.cells #[.slice none 0 0, .slice none 0 0] 25 (0, 0))) := fun o => ⟨(((Gr.refl _).alloc _).alloc _).alloc _, Hr.heap_of_gr ((Gr.refl _).alloc _) (heap_alloc2_old w _ _)⟩
  have HZ1 : Hid (∀ W : World, Gr w W → n < 4 → Calls Try.prog 30 #[.slice a n c, .int .i64 0] W fun e w' => e = .returned (.int .i64 (-1)) ∧ w' = W) := fun W G h => HA1.out W 0 G (by omega) (by omega)
  have HZ2 : Hid (∀ W : World, Gr w W → 4 ≤ n → Calls Try.prog 30 #[.slice a n c, .int .i64 0] W fun e w' => e = .returned (.int .i64 (raw b 0 4)) ∧ w' = W) := fun W G h => HA2.out W 0 G (by omega) (by omega)
  by_cases c1 : n < 4
  · have hy : Hid (yes = false) := by unfold Hid; rw [HY.out]; exact no_cd fun mn hn C => by have := C.l1; have := HL.out; omega
    clear HA1 HA2 HZ2
    go_enter Try.func15, Try.ntmps15
    go_wp2_with fail
    refine (HZ1.out _ (((Gr.refl _).alloc _).alloc _) c1).mono ?_
    rintro e w1 ⟨rfl, rfl⟩
    go_wp2_with fail
    exact HNO.out hy.out _ _ rfl rfl HN2.out.1 HN2.out.2
  · obtain ⟨x, hx⟩ : ∃ x, x = raw b 0 4 := ⟨_, rfl⟩
    have hu := raw_u4 b 0
    have x0 : 0 ≤ x := by rw [hx]; exact hu.1
    have x1 : x < 4294967296 := by rw [hx]; exact hu.2
    rw [← hx] at HZ2
    have HX : Hid (x = raw b 0 4) := hx
    clear hx hu HZ1
    by_cases c2 : 4096 < x ∨ (n : Int) < 4 + x
    · have hy : Hid (yes = false) := by unfold Hid; rw [HY.out]; exact no_cd fun mn hn C => by have := C.e1; have := C.m1; have := C.l2; have := HL.out; have := HX.out; omega
      clear HA1 HA2
      go_enter Try.func15, Try.ntmps15
      go_wp2_with fail
      refine (HZ2.out _ (((Gr.refl _).alloc _).alloc _) (by omega)).mono ?_
      rintro e w1 ⟨rfl, rfl⟩
      by_cases c3 : 4096 < x
      · go_wp2_with fail
        exact HNO.out hy.out _ _ rfl rfl HN2.out.1 HN2.out.2
      · have c4 : (n : Int) < 4 + x := by omega
        clear c2
        go_wp2_with fail
        exact HNO.out hy.out _ _ rfl rfl HN2.out.1 HN2.out.2
    · obtain ⟨mn, rfl⟩ := Int.eq_ofNat_of_zero_le x0
      have c3 : ¬ (4096 : Int) < (mn : Int) := by omega
      have c4 : ¬ (n : Int) < 4 + (mn : Int) := by omega
      have HMn : Hid (4 + mn ≤ n ∧ mn ≤ 4096) := ⟨by omega, by omega⟩
      have hmn : mn ≤ 4096 := by omega
      have hmn2 : 4 + mn ≤ n := by omega
      obtain ⟨ab, ao, rfl, _, _⟩ := HS.out.mem.spot (by omega)
      have HX : Hid ((mn : Int) = raw b 0 4) := HX.out
      clear c2 x0 x1
      have HZ3 : Hid (∀ W : World, Gr w W → n < 8 + mn → Calls Try.prog 30 #[.slice (some ⟨ab, ao, none⟩) n c, .int .i64 (4 + (mn : Int))] W fun e w' => e = .returned (.int .i64 (-1)) ∧ w' = W) := fun W G h => by
        have := HA1.out W (4 + mn) G (by omega) (by omega)
        rwa [show ((4 + mn : Nat) : Int) = 4 + (mn : Int) by omega] at this
      have HZ4 : Hid (∀ W : World, Gr w W → 8 + mn ≤ n → Calls Try.prog 30 #[.slice (some ⟨ab, ao, none⟩) n c, .int .i64 (4 + (mn : Int))] W fun e w' => e = .returned (.int .i64 (raw b (4 + mn) 4)) ∧ w' = W) := fun W G h => by
        have := HA2.out W (4 + mn) G (by omega) (by omega)
        rwa [show ((4 + mn : Nat) : Int) = 4 + (mn : Int) by omega] at this
      by_cases c5 : n < 8 + mn
      · have hy : Hid (yes = false) := by unfold Hid; rw [HY.out]; exact no_cd fun mn' hn C => by have := C.e1; have := C.m1; have := C.l2; have := HL.out; have := HX.out; omega
        clear HA1 HA2 HS
        by_cases hc4 : c = 4
        · subst hc4
          go_enter Try.func15, Try.ntmps15
          go_wp2_with fail
          refine (HZ2.out _ (((Gr.refl _).alloc _).alloc _) (by omega)).mono ?_
          rintro e w1 ⟨rfl, rfl⟩
          go_wp2_with fail
          refine (HZ3.out _ ((((Gr.refl _).alloc _).alloc _).alloc _) (by omega)).mono ?_
          rintro e w1 ⟨rfl, rfl⟩
          go_wp2_with fail
          exact HNO.out hy.out _ _ rfl rfl (HN3.out _).1 (HN3.out _).2
        · have hc5 : ¬ c = 4 := hc4
          go_enter Try.func15, Try.ntmps15
          go_wp2_with fail
          refine (HZ2.out _ (((Gr.refl _).alloc _).alloc _) (by omega)).mono ?_
          rintro e w1 ⟨rfl, rfl⟩
          go_wp2_with fail
          refine (HZ3.out _ ((((Gr.refl _).alloc _).alloc _).alloc _) (by omega)).mono ?_
          rintro e w1 ⟨rfl, rfl⟩
          go_wp2_with fail
          exact HNO.out hy.out _ _ rfl rfl (HN3.out _).1 (HN3.out _).2
      · have hc8 : 8 ≤ c := by omega
        have hc4 : ¬ c = 4 := by omega
        obtain ⟨y, hy⟩ : ∃ x, x = raw b (4 + mn) 4 := ⟨_, rfl⟩
        have hu := raw_u4 b (4 + mn)
        have y0 : 0 ≤ y := by rw [hy]; exact hu.1
        have y1 : y < 4294967296 := by rw [hy]; exact hu.2
        rw [← hy] at HZ4
        have HYy : Hid (y = raw b (4 + mn) 4) := hy
        clear hy hu HZ3
        by_cases dd : 1 ≤ y ∧ y ≤ 4 ∧ (n : Int) = 8 + (mn : Int) + 148 * y
        · obtain ⟨hn', rfl⟩ := Int.eq_ofNat_of_zero_le y0
          rw [HY.out]
          exact GetR_e HS.out hn (mn := mn) (hn' := hn') ⟨by rw [HL.out]; omega, HX.out.symm, hmn, by rw [HL.out]; omega, HYy.out.symm, by omega, by omega, by rw [HL.out]; omega⟩
        have HDD : Hid (¬ (1 ≤ y ∧ y ≤ 4 ∧ (n : Int) = 8 + (mn : Int) + 148 * y)) := dd
        clear dd
        go_enter Try.func15, Try.ntmps15
        go_wp2_with fail
        refine (HZ2.out _ (((Gr.refl _).alloc _).alloc _) (by omega)).mono ?_
        rintro e w1 ⟨rfl, rfl⟩
        clear HZ2
        go_wp2_with fail
        refine (HZ4.out _ ((((Gr.refl _).alloc _).alloc _).alloc _) (by omega)).mono ?_
        rintro e w1 ⟨rfl, rfl⟩
        clear HZ4
        by_cases d1 : y < 1
        · have hy : Hid (yes = false) := by unfold Hid; rw [HY.out]; exact no_cd fun mn' hn C => by have h1 := C.e1; have h2 := C.e2; have h3 := C.h1; have := HX.out; rw [show mn' = mn by omega] at h2; have := HYy.out; omega
          clear HA1 HA2
          go_wp2_with fail
          exact HNO.out hy.out _ _ rfl rfl (HN3.out _).1 (HN3.out _).2
        · by_cases d2 : 4 < y
          · have hy : Hid (yes = false) := by unfold Hid; rw [HY.out]; exact no_cd fun mn' hn C => by have h1 := C.e1; have h2 := C.e2; have h3 := C.h4; have := HX.out; rw [show mn' = mn by omega] at h2; have := HYy.out; omega
            clear HA1 HA2
            go_wp2_with fail
            exact HNO.out hy.out _ _ rfl rfl (HN3.out _).1 (HN3.out _).2
          · have d1' : ¬ y < 1 := d1
            have d2' : ¬ 4 < y := d2
            have d3 : ¬ (n : Int) = 8 + (mn : Int) + 148 * y := fun h => HDD.out ⟨by omega, by omega, h⟩
            have hy : Hid (yes = false) := by unfold Hid; rw [HY.out]; exact no_cd fun mn' hn C => (by have h1 := C.e1; have h2 := C.e2; have h3 := C.l3; have h4 := HX.out; have e : mn' = mn := (by omega); subst e; have := HYy.out; have := HL.out; omega)
            have d3' : ((n : Int) != 8 + (mn : Int) + 148 * y) = true := by rw [bne_iff_ne]; exact d3
            clear HA1 HA2 d1 d2 d3
            go_wp2_with fail
            exact HNO.out hy.out _ _ rfl rfl (HN3.out _).1 (HN3.out _).2
end Go.Proofs.Ythgnfmbnbndeeac.Im
/-
  The walk of ImageGets.
-/
namespace Go.Proofs.Ythgnfmbnbndeeac.Im
open Go.ChangeShapes Go.WideShapes Go.ChangeAt Go.RowKit Mm Hh Hc Mc
set_option linter.unusedVariables false
set_option linter.unusedSimpArgs false

/-- What Get answers, in one row: a machine that reads so, and a number. -/
theorem gp_one {b : List UInt8} : ∃ (m : List UInt8) (hs : List Hv) (er : Int), hs.length ≤ 4 ∧ ∀ (w : World) e w', GP w (gotB b) (mrM ⟨b, false⟩) (mrH ⟨b, false⟩) e w' → ∃ ma mc ha hc, e = .returned (.tuple #[.agg #[.slice ma m.length mc, .slice ha hs.length hc], .int .i64 er]) ∧ Mw w' (.agg #[.slice ma m.length mc, .slice ha hs.length hc]) m hs ∧ Mem w' ma m.length m ∧ Gr w w' := by
  cases hg : gotB b with
  | true =>
    refine ⟨mrM ⟨b, false⟩, mrH ⟨b, false⟩, 0, (mayM_of (got_is hg).may).2.2.1, ?_⟩
    rintro w e w' ⟨G, ⟨_, v, rfl, ma, mc, ha, hc, rfl, h1, h2, h3⟩ | ⟨h, _⟩⟩
    · exact ⟨ma, mc, ha, hc, rfl, ⟨ma, mc, ha, hc, rfl, h1, h2, h3⟩, h2, G⟩
    · cases h
  | false =>
    refine ⟨[], [], 2, by simp, ?_⟩
    rintro w e w' ⟨G, ⟨h, _⟩ | ⟨_, rfl⟩⟩
    · cases h
    · exact ⟨none, 0, none, 0, rfl, mw_zero w', mem_nil none, G⟩
set_option maxHeartbeats 2000000 in
set_option maxRecDepth 100000 in
theorem gets_any {w : World} {a : Option Addr} {n c : Nat} {b : List UInt8} (S : Sb w a n c b) (hn : n ≤ 140737488351232) :
    Calls Try.prog 5 #[.slice a n c] w fun e w' => e = .returned (.bool true) ∧ Gr w w' := by
  obtain ⟨m, hs, er, h4, K⟩ := gp_one (b := b)
  have HP1 : Hid (∀ W : World, Gr w W → Calls Try.prog 14 #[.slice a n c] W fun e w' => ∃ ma mc ha hc, e = .returned (.tuple #[.agg #[.slice ma m.length mc, .slice ha hs.length hc], .int .i64 er]) ∧ Mw w' (.agg #[.slice ma m.length mc, .slice ha hs.length hc]) m hs ∧ Mem w' ma m.length m ∧ Gr W w') := fun W G => (Get_gp (S.mem.of G) S.le S.nil hn).mono fun e w' h => K W e w' h
  have HP2 : Hid (∀ W : World, Gr w W → Calls Try.prog 15 #[.slice a n c] W fun e w' => ∃ ma mc ha hc, e = .returned (.tuple #[.agg #[.slice ma m.length mc, .slice ha hs.length hc], .int .i64 er]) ∧ Mw w' (.agg #[.slice ma m.length mc, .slice ha hs.length hc]) m hs ∧ Mem w' ma m.length m ∧ Gr W w') := fun W G => (GetR_gp (S.of G) hn).mono fun e w' h => K W e w' h
  have HMs : Hid (∀ (W : World) (x y : Value), Mw W x m hs → Mw W y m hs → Calls Try.prog 10 #[x, y] W fun e w' => e = .returned (.bool true) ∧ Gr W w') := fun W x y A B => Machines_eq A B h4
  have HBy : Hid (∀ (W : World) (p q : Option Addr) (i j : Nat), Mem W p m.length m → Mem W q m.length m → Calls Try.prog 16 #[.slice p m.length i, .slice q m.length j] W fun e w' => e = .returned (.bool true) ∧ Gr W w') := fun W p q i j M N => (Mr.Bytes_any i j M N).mono fun e w' ⟨h1, h2⟩ => ⟨by rw [h1]; simp, by rw [h2]; exact Gr.refl _⟩
  clear S K h4
  generalize m.length = mn at *
  generalize hs.length = hl at *
  go_enter Try.func5, Try.ntmps5
  go_wp2_with fail
  refine (HP1.out _ (Gr.refl _)).mono ?_
  rintro e w1 ⟨ma, mc, ha, hc, rfl, A1, M1, G1⟩
  have HG1 : Hid (Gr w w1) := G1
  have HA1 : Hid (Mw w1 (.agg #[.slice ma mn mc, .slice ha hl hc]) m hs) := A1
  have HM1 : Hid (Mem w1 ma mn m) := M1
  clear HP1 A1 M1 G1
  go_wp2_with fail
  refine (HP2.out _ (HG1.out.alloc _)).mono ?_
  rintro e w2 ⟨na, nc, ka, kc, rfl, A2, M2, G2⟩
  have G12 : Gr w1 w2 := ((Gr.refl _).alloc _).trans G2
  have HG2 : Hid (Gr w w2) := HG1.out.trans G12
  have HA2 : Hid (Mw w2 (.agg #[.slice na mn nc, .slice ka hl kc]) m hs) := A2
  have HM2 : Hid (Mem w2 na mn m) := M2
  have HB1 : Hid (Mw w2 (.agg #[.slice ma mn mc, .slice ha hl hc]) m hs) := HA1.out.of G12
  have HN1 : Hid (Mem w2 ma mn m) := HM1.out.of G12
  have HX1 : Hid (w2.heap[w1.heap.size]? = some (.cells #[.slice ma mn mc, .slice ha hl hc] 25 (0, 0))) := Hr.heap_of_gr G2 (heap_alloc_new w1 _)
  have x0 := cr0 HX1.out
  have x1 := cr1 HX1.out
  have l1 := (gs HX1.out).1
  clear A2 M2 G2 G12 HP2 HA1 HM1 HG1
  go_wp2_with fail
  refine (HMs.out _ _ _ (HB1.out.of ((Gr.refl _).alloc _)) (HA2.out.of ((Gr.refl _).alloc _))).mono ?_
  rintro e w3 ⟨rfl, G3⟩
  have G23 : Gr w2 w3 := ((Gr.refl _).alloc _).trans G3
  have HG3 : Hid (Gr w w3) := HG2.out.trans G23
  have HN3 : Hid (Mem w3 ma mn m ∧ Mem w3 na mn m) := ⟨HN1.out.of G23, HM2.out.of G23⟩
  have y0 := cr0 (Hr.heap_of_gr G23 HX1.out)
  have y2 := cr0 (Hr.heap_of_gr G3 (heap_alloc_new w2 _))
  clear x0 x1 G3 G23 HMs HB1 HA2 HN1 HM2 HX1 HG2
  go_wp2_with fail
  refine (HBy.out _ _ _ _ _ HN3.out.1 HN3.out.2).mono ?_
  rintro e w4 ⟨rfl, G4⟩
  have HG4 : Hid (Gr w w4) := HG3.out.trans G4
  clear G4
  go_wp2_with fail
  go_ret
  exact ⟨rfl, HG4.out⟩
end Go.Proofs.Ythgnfmbnbndeeac.Im
