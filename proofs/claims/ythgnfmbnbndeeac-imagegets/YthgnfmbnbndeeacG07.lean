/-
  Ir4, Ig, Iw: texts of ours that lie in one file.
-/
import Derived.Test.YthgnfmbnbndeeacG06
import Derived.Test.YthgnfmbnbndeeacG03
/-
  What package image's reader reads as a machine.
-/
namespace Go.Proofs.Ythgnfmbnbndeeac.Im
open Go.ChangeShapes Go.WideShapes Go.ChangeAt Go.RowKit Mm Hh Hc Mc
set_option linter.unusedVariables false
set_option linter.unusedSimpArgs false

variable {lim : Nat}
theorem sl_no (a b : Option Addr) (n c m d : Nat) : ∀ (i : Nat) (x : Int), (#[.slice a n c, .slice b m d] : Array Value)[i]? ≠ some (Value.int .u8 x) := by
  intro i x h
  match i, h with
  | 0, h => simp at h
  | 1, h => simp at h
  | i + 2, h => simp at h
theorem own_slice' {w : World} {base e sz n : Nat} {v : Value} {xs : List Value} (h : w.ownsRow base e sz v n xs) : ∃ a c, v = .slice a n c := by
  rcases h.2 with ⟨h0, rfl⟩ | ⟨g, cap, _, hv, _⟩
  · exact ⟨_, _, h0⟩
  · exact ⟨_, _, hv⟩
/-- A reader at block g, a machine that is being made, and a block for the result. -/
structure Rm (lim : Nat) (w0 w : World) (g : Nat) (r : Rd) (a : Option Addr) (n c : Nat) (b : Option Addr) (d : Nat) (m : List UInt8) (hs : List Hv) : Prop where
  lo : lim ≤ w0.heap.size
  re : Re w lim g r
  mb : w.heap[w0.heap.size + 1]? = some (.cells #[.slice a n c, .slice b hs.length d] 25 (0, 0))
  rb : w.heap[w0.heap.size]? = some (.cells #[.slice none 0 0, .slice none 0 0] 25 (0, 0))
  mem : Own w w0.heap.size (.slice a n c) m
  row : w.ownsRow w0.heap.size 48 37 (.slice b hs.length d) hs.length (hC hs)
  ok : ∀ h ∈ hs, h.Ok
  ch : Ch g w0 w
section
variable {w0 w w' : World} {g : Nat} {r r' : Rd} {a b : Option Addr} {n c d : Nat} {m : List UInt8} {hs : List Hv}
theorem Rm.call (A : Rm lim w0 w g r a n c b d m hs) (R : Re w' lim g r') (C : Ch g w w') : Rm lim w0 w' g r' a n c b d m hs := by
  obtain ⟨aa, cc, e, _⟩ := A.re.blk
  have kp : ∀ (k : Nat) (o : Array Value) (t : Nat) (f : Nat × Nat), t ≠ 74 → w.heap[k]? = some (.cells o t f) → w'.heap[k]? = w.heap[k]? := fun k o t f ht hk =>
    C.block _ (gs hk).1 (fun hh => ne_of_types hk e ht (Option.some.inj hh))
  exact ⟨A.lo, R, (kp _ _ _ _ (by decide) A.mb).trans A.mb, (kp _ _ _ _ (by decide) A.rb).trans A.rb, A.mem.to fun k o f hk => kp k o _ f (by decide) hk, owns_to A.row fun k o f hk => kp k o _ f (by decide) hk, A.ok, A.ch.trans C⟩
theorem Rm.gr (A : Rm lim w0 w g r a n c b d m hs) (G : Gr w w') : Rm lim w0 w' g r a n c b d m hs := A.call (A.re.gr G) ((Ch.refl g w).gr G)
theorem Rm.le (A : Rm lim w0 w g r a n c b d m hs) : w0.heap.size ≤ w.heap.size := Nat.le_of_lt (gs A.rb).1
theorem Rm.ne (A : Rm lim w0 w g r a n c b d m hs) : w0.heap.size + 1 ≠ g := by
  obtain ⟨aa, cc, e, _⟩ := A.re.blk
  exact ne_of_types A.mb e (by decide)
theorem Rm.setM (A : Rm lim w0 w g r a n c b d m hs) {a' : Option Addr} {n' c' : Nat} {m' : List UInt8} (O : Own w w0.heap.size (.slice a' n' c') m') : Rm lim w0 (w.setCell ⟨w0.heap.size + 1, 0, none⟩ (.slice a' n' c')) g r a' n' c' b d m' hs :=
  ⟨A.lo, A.re.ch A.mb (sl_no _ _ _ _ _ _) A.ne ((Ch.refl _ _).setCell 0 _), by rw [hss A.mb]; simp, (hso (by simp)).trans A.rb, O.to fun k o f hk => hso (ne_of_types hk A.mb (by decide)), owns_to A.row fun k o f hk => hso (ne_of_types hk A.mb (by decide)), A.ok, ch_new A.ch (by omega) 0 _⟩
theorem infoHd : ∃ i : TypeInfo, Try.prog.info? 48 = some i ∧ i.zero = some (.agg (hA ⟨List.replicate 32 0, 0, false, 0, 0, 0⟩)) ∧ i.size = 37 ∧ i.bytes = 160 := by
  have h := infoHt
  cases hi : Try.prog.info? 48 with
  | none => rw [hi] at h; cases h
  | some i =>
    rw [hi] at h
    simp only [Option.map_some, Option.some.injEq, Prod.mk.injEq] at h
    exact ⟨i, rfl, h.1, h.2.1, h.2.2⟩
theorem hL_len {h : Hv} (o : h.Ok) : (hL h).length = 37 := by have := hA_size o; simpa [hA] using this
theorem one_hL (h : Hv) : ∀ u ∈ hL h, u.oneCell' = true := by
  have := one_hA h
  simpa [hA, Array.all_eq_true_iff_forall_mem] using this
/-- A row of one struct, as what is appended. -/
theorem src_one {W : World} {q t n : Nat} {f : Nat × Nat} {l : List Value} (hl : l.length = n) (e : W.heap[q]? = some (.cells l.toArray t f)) : Src W (.slice (some ⟨q, 0, none⟩) 1 1) 1 n l :=
  .inr ⟨_, 1, rfl, by rw [hl, Nat.one_mul], fun j u hj => by rw [add_at, Nat.zero_add, cr e]; simpa using hj⟩
theorem fold37 {L : List Value} (h : L.length = 37) : List.foldl (fun (cs : Array Value) (x : Value × Nat) => cs.setIfInBounds x.snd x.fst) #[.int .u32 0, .int .u32 0, .int .u32 0, .int .u32 0, .int .u32 0, .int .u32 0, .int .u32 0, .int .u32 0, .int .u32 0, .int .u32 0, .int .u32 0, .int .u32 0, .int .u32 0, .int .u32 0, .int .u32 0, .int .u32 0, .int .u32 0, .int .u32 0, .int .u32 0, .int .u32 0, .int .u32 0, .int .u32 0, .int .u32 0, .int .u32 0, .int .u32 0, .int .u32 0, .int .u32 0, .int .u32 0, .int .u32 0, .int .u32 0, .int .u32 0, .int .u32 0, .int .u32 0, .bool false, .int .u32 0, .int .i64 0, .int .i64 0] L.zipIdx = L.toArray := by
  have a1 := fold_set 0 L.toArray #[.int .u32 0, .int .u32 0, .int .u32 0, .int .u32 0, .int .u32 0, .int .u32 0, .int .u32 0, .int .u32 0, .int .u32 0, .int .u32 0, .int .u32 0, .int .u32 0, .int .u32 0, .int .u32 0, .int .u32 0, .int .u32 0, .int .u32 0, .int .u32 0, .int .u32 0, .int .u32 0, .int .u32 0, .int .u32 0, .int .u32 0, .int .u32 0, .int .u32 0, .int .u32 0, .int .u32 0, .int .u32 0, .int .u32 0, .int .u32 0, .int .u32 0, .int .u32 0, .int .u32 0, .bool false, .int .u32 0, .int .i64 0, .int .i64 0]
  rw [← Array.foldl_toList, Array.toList_zipIdx] at a1
  simp only [Nat.zero_add] at a1
  apply Array.ext_getElem?
  intro i
  rw [a1.2 i]
  by_cases hi : i < 37
  · rw [if_pos ⟨Nat.zero_le _, by simp [h]; omega, by simp; omega⟩, Nat.sub_zero]
  · rw [if_neg (by simp [h]; omega), Array.getElem?_eq_none (by simp; omega), Array.getElem?_eq_none (by simp [h]; omega)]
theorem hC_snoc (hs : List Hv) (h : Hv) : hC (hs ++ [h]) = hC hs ++ hL h := by simp [hC]
/-- A hart appended: behind the append, and behind the store. -/
theorem Rm.app (A : Rm lim w0 w g r a n c b d m hs) {h : Hv} (o : h.Ok) {v' : Value} (q : w.grownBy w' (Value.slice b hs.length d).ownBlock) (O : w'.ownsRow w0.heap.size 48 37 v' (hs.length + 1) (hC hs ++ hL h)) :
    ∃ b' d', v' = .slice b' (hs.length + 1) d' ∧ w'.heap[w0.heap.size + 1]? = some (.cells #[.slice a n c, .slice b hs.length d] 25 (0, 0)) ∧ Rm lim w0 (w'.setCell ⟨w0.heap.size + 1, 1, none⟩ v') g r a n c b' d' m (hs ++ [h]) := by
  have ob : ∀ k, (Value.slice b hs.length d).ownBlock = some k → w0.heap.size ≤ k ∧ ∃ cur, w.heap[k]? = some (.cells cur 48 (0, 0)) := fun k hk => by
    rcases A.row.2 with ⟨h0, _⟩ | ⟨g', cap, cur, hv, hb, hg, _⟩
    · rw [h0] at hk; cases hk
    · rw [hv] at hk
      injection hk with hk
      subst hk
      exact ⟨hb, cur, hg⟩
  obtain ⟨b', d', rfl⟩ := own_slice' O
  have kp : ∀ (k : Nat) (o : Array Value) (t : Nat) (f : Nat × Nat), t ≠ 48 → w.heap[k]? = some (.cells o t f) → w'.heap[k]? = w.heap[k]? := fun k o t f ht hk =>
    q.block k (gs hk).1 (fun hh => by
      obtain ⟨_, cur, hg⟩ := ob k hh.symm
      exact ne_of_types hk hg ht rfl)
  have e1 := (kp _ _ _ _ (by decide) A.mb).trans A.mb
  obtain ⟨aa, cc, e, _⟩ := A.re.blk
  have hg0 := (kp _ _ _ _ (by decide) e)
  have R1 : Re w' lim g r := A.re.to hg0 fun k h1 h2 h3 => q.block k h2 fun hh => by
    have := (ob k hh.symm).1
    have := A.lo
    omega
  refine ⟨b', d', rfl, e1, A.lo, R1.ch e1 (sl_no _ _ _ _ _ _) A.ne ((Ch.refl _ _).setCell 1 _), by rw [hss e1]; simp, (hso (by simp)).trans ((kp _ _ _ _ (by decide) A.rb).trans A.rb), ?_, ?_, ?_, ?_⟩
  · exact A.mem.to fun k o f hk => (hso (ne_of_types ((kp k o _ f (by decide) hk).trans hk) e1 (by decide))).trans (kp k o _ f (by decide) hk)
  · rw [List.length_append, List.length_singleton, hC_snoc]
    exact owns_to O fun k o f hk => hso (ne_of_types hk e1 (by decide))
  · intro h' hm
    rcases List.mem_append.1 hm with hm | hm
    · exact A.ok h' hm
    · rw [List.mem_singleton.1 hm]; exact o
  · refine ch_new ⟨q.os.trans A.ch.os, q.tape.trans A.ch.tape, q.output.trans A.ch.output, Nat.le_trans A.ch.size q.size, fun i hi hn => (q.block i (Nat.lt_of_lt_of_le hi A.ch.size) fun hh => ?_).trans (A.ch.block i hi hn)⟩ (by omega) 1 _
    have := (ob i hh.symm).1
    omega
theorem Rm.app2 (A : Rm lim w0 w g r a n c b d m hs) {h : Hv} (o : h.Ok) {v' : Value} {k : Nat} (hk : hs.length = k) (q : w.grownBy w' (Value.slice b k d).ownBlock) (O : w'.ownsRow w0.heap.size 48 37 v' (k + 1) (hC hs ++ hL h)) :
    ∃ b' d', v' = .slice b' (k + 1) d' ∧ w'.heap[w0.heap.size + 1]? = some (.cells #[.slice a n c, .slice b k d] 25 (0, 0)) ∧ Rm lim w0 (w'.setCell ⟨w0.heap.size + 1, 1, none⟩ v') g r a n c b' d' m (hs ++ [h]) := by
  subst hk
  exact A.app o q O
/-- The machine handed out. -/
theorem Rm.fin (A : Rm lim w0 w g r a n c b d m hs) {k : Nat} (hk : hs.length = k) : ∃ W, W = (w.setCell ⟨w0.heap.size, 0, none⟩ (.slice a n c)).setCell ⟨w0.heap.size, 1, none⟩ (.slice b k d) ∧ W.heap[w0.heap.size]? = some (.cells #[.slice a n c, .slice b k d] 25 (0, 0)) ∧ (a = none → c = 0) ∧ Mem W a n m ∧ Hs W b k hs ∧ Re W lim g r ∧ Ch g w0 W := by
  subst hk
  refine ⟨_, rfl, ?_⟩
  obtain ⟨aa, cc, e, _⟩ := A.re.blk
  have ng : w0.heap.size ≠ g := ne_of_types A.rb e (by decide)
  have e1 : (w.setCell ⟨w0.heap.size, 0, none⟩ (.slice a n c)).heap[w0.heap.size]? = some (.cells #[.slice a n c, .slice none 0 0] 25 (0, 0)) := by rw [hss A.rb]; simp
  have R1 : Re (w.setCell ⟨w0.heap.size, 0, none⟩ (.slice a n c)) lim g r := A.re.ch A.rb (sl_no _ _ _ _ _ _) ng ((Ch.refl _ _).setCell 0 _)
  have M2 : Own ((w.setCell ⟨w0.heap.size, 0, none⟩ (.slice a n c)).setCell ⟨w0.heap.size, 1, none⟩ (.slice b hs.length d)) w0.heap.size (.slice a n c) m := A.mem.to fun k o f hk => (hso (ne_of_types hk A.rb (by decide))).trans (hso (ne_of_types hk A.rb (by decide)))
  have H2 := owns_to (w' := (w.setCell ⟨w0.heap.size, 0, none⟩ (.slice a n c)).setCell ⟨w0.heap.size, 1, none⟩ (.slice b hs.length d)) A.row fun k o f hk => (hso (ne_of_types hk A.rb (by decide))).trans (hso (ne_of_types hk A.rb (by decide)))
  obtain ⟨b', d', eb, HH⟩ := hs_own A.ok rfl H2
  obtain ⟨a', c', ea, MM⟩ := M2.mem
  injection eb with eb1 eb2 eb3
  injection ea with ea1 ea2 ea3
  subst eb1 eb3 ea1 ea2 ea3
  refine ⟨by rw [hss e1]; simp, fun h => ?_, MM, HH, R1.ch e1 (sl_no _ _ _ _ _ _) ng ((Ch.refl _ _).setCell 1 _), ch_new (ch_new A.ch (Nat.le_refl _) 0 _) (Nat.le_refl _) 1 _⟩
  rcases A.mem with ⟨h1, _⟩ | ⟨k, cap, h1, _⟩
  · injection h1
  · injection h1 with h1
    rw [h1] at h
    cases h
end
set_option maxHeartbeats 4000000 in
set_option maxRecDepth 100000 in
theorem rmachine_any {w : World} {g : Nat} {r : Rd} (R : Re w lim g r) (hlo : lim ≤ w.heap.size) :
    Calls Try.prog 29 #[.pointer (some ⟨g, 0, none⟩)] w fun e w' => ∃ a c b d, e = .returned (.agg #[.slice a (mrM r).length c, .slice b (mrN r) d]) ∧ (a = none → c = 0) ∧ Mem w' a (mrM r).length (mrM r) ∧ Hs w' b (mrN r) (mrH r) ∧ Re w' lim g (mrR r) ∧ Ch g w w' := by
  obtain ⟨N, hN⟩ : ∃ N, N = mrN r := ⟨_, rfl⟩
  obtain ⟨Q, hQ⟩ : ∃ N, N = (utV r 4096).toNat := ⟨_, rfl⟩
  have u1 := utV_bd r (most := 4096) (by omega)
  have u2 := utV_bd (m2 r) (most := 4) (by omega)
  have hNe : (N : Int) = utV (m2 r) 4 := by rw [hN]; unfold mrN; omega
  have hQe : (Q : Int) = utV r 4096 := by omega
  have hN4 : N ≤ 4 := by omega
  have hQ4 : Q ≤ 4096 := by omega
  have HU1 : Hid (∀ W : World, Re W lim g r → Calls Try.prog 41 #[.pointer (some ⟨g, 0, none⟩), .int .u32 4096] W fun e w' => e = .returned (.int .u32 (Q : Int)) ∧ Re w' lim g (m1 r) ∧ Ch g W w') := fun W R => by rw [hQe]; exact upTo_any (most := 4096) R (by omega)
  have HT : Hid (∀ W : World, Re W lim g (m1 r) → Calls Try.prog 40 #[.pointer (some ⟨g, 0, none⟩), .int .u32 (Q : Int)] W fun e w' => ∃ a c, e = .returned (.slice a (mrM r).length c) ∧ (a = none → c = 0) ∧ Mem w' a (mrM r).length (mrM r) ∧ Re w' lim g (m2 r) ∧ Ch g W w') := fun W R => by
    have := take_any (n := Q) R (by omega)
    rw [hQ] at this ⊢
    exact this
  have HU2 : Hid (∀ W : World, Re W lim g (m2 r) → Calls Try.prog 41 #[.pointer (some ⟨g, 0, none⟩), .int .u32 4] W fun e w' => e = .returned (.int .u32 (N : Int)) ∧ Re w' lim g (m3 r) ∧ Ch g W w') := fun W R => by rw [hNe]; exact upTo_any (most := 4) R (by omega)
  have HH : Hid (∀ (W : World) (k : Nat), Re W lim g (hrI (m3 r) k) → Calls Try.prog 42 #[.pointer (some ⟨g, 0, none⟩)] W fun e w' => e = .returned (.agg (hL (hrV (hrI (m3 r) k))).toArray) ∧ Re w' lim g (hrI (m3 r) (k + 1)) ∧ Ch g W w') := fun W k R => rhart_any R
  have HML : Hid ((mrM r).length ≤ 140737488351232) := by
    unfold Hid mrM tkV
    split
    · rw [List.length_take]; omega
    · simp
  have HC : Hid (∀ (W : World) (a : Option Addr) (c : Nat), Mem W a (mrM r).length (mrM r) → (a = none → c = 0) → Calls Try.prog 19 #[.slice a (mrM r).length c] W fun e w' => ∃ v, e = .returned v ∧ Own w' W.heap.size v (mrM r) ∧ Gr W w') := fun W a c M h => Clone_any M h HML.out
  have HR0 : Hid (mrR r = hrI (m3 r) N) := by unfold Hid; rw [hN]; rfl
  have HH0 : Hid (mrH r = hrL (m3 r) N) := by unfold Hid; rw [hN]; rfl
  have HR : Hid (Re w lim g r) := R
  rw [← hN, HR0.out, HH0.out]
  clear hN hQ u1 u2 hNe hQe HR0 HH0 R HML
  generalize mrM r = mm at *
  obtain ⟨mn, hmn⟩ : ∃ n, n = mm.length := ⟨_, rfl⟩
  rw [← hmn] at HT HC ⊢
  have HMN : Hid (mn = mm.length) := hmn
  clear hmn
  generalize m1 r = r1 at *
  generalize m2 r = r2 at *
  generalize m3 r = r3 at *
  go_enter Try.func29, Try.ntmps29
  go_wp2_with fail
  have A0 : Rm lim w ((w.alloc (.cells #[.slice none 0 0, .slice none 0 0] 25)).alloc (.cells #[.slice none 0 0, .slice none 0 0] 25)) g r none 0 0 none 0 [] [] :=
    ⟨hlo, HR.out.gr (((Gr.refl _).alloc _).alloc _), heap_alloc2_new w _ _, heap_alloc2_old w _ _, .inl ⟨rfl, rfl⟩, ⟨rfl, .inl ⟨rfl, rfl⟩⟩, fun h hm => (by cases hm), (Ch.refl g w).gr (((Gr.refl _).alloc _).alloc _)⟩
  have HA0 : Hid (Rm lim w ((w.alloc (.cells #[.slice none 0 0, .slice none 0 0] 25)).alloc (.cells #[.slice none 0 0, .slice none 0 0] 25)) g r none 0 0 none 0 [] []) := A0
  clear A0
  refine (HU1.out _ HA0.out.re).mono ?_
  rintro e w1 ⟨rfl, R1, C1⟩
  have HA1 : Hid (Rm lim w w1 g r1 none 0 0 none 0 [] []) := HA0.out.call R1 C1
  clear R1 C1 HA0 HU1 HR
  go_wp2_with fail
  refine (HT.out _ HA1.out.re).mono ?_
  rintro e w2 ⟨ta, tc, rfl, tz, TM, R2, C2⟩
  have HA2 : Hid (Rm lim w w2 g r2 none 0 0 none 0 [] []) := HA1.out.call R2 C2
  have HTM : Hid (Mem w2 ta mn mm) := TM
  clear R2 C2 HA1 HT TM
  go_wp2_with fail
  refine (HC.out _ _ _ HTM.out tz).mono ?_
  rintro e w3 ⟨v, rfl, O3, G3⟩
  have A3 := HA2.out.gr G3
  obtain ⟨a, c, ev, M3⟩ := O3.mem
  rw [← HMN.out] at ev
  subst ev
  have HA3 : Hid (Rm lim w w3 g r2 none 0 0 none 0 [] []) := A3
  have HA4 : Hid (Rm lim w (w3.setCell ⟨w.heap.size + 1, 0, none⟩ (.slice a mn c)) g r2 a mn c none 0 mm []) := A3.setM (O3.base (w' := w3) HA2.out.le)
  have c0 := cr0 A3.mb
  have f0 : w3.frozen? ⟨w.heap.size + 1, 0, none⟩ = false := fzr A3.mb
  clear A3 O3 G3 M3 HA2 HC HTM tz
  go_wp2_with fail
  refine (HU2.out _ HA4.out.re).mono ?_
  rintro e w5 ⟨rfl, R5, C5⟩
  have HA5 : Hid (Rm lim w w5 g r3 a mn c none 0 mm []) := HA4.out.call R5 C5
  clear R5 C5 HA4 HU2 c0 f0 HA3
  go_wp2_with fail
  go_loopw [12] (fun i wr => ∃ k : Nat, k ≤ N ∧ i = .int .u32 k ∧ ∃ b d, Rm lim w wr g (hrI r3 k) a mn c b d mm (hrL r3 k)) (fun i _ => N - (intOf i).toNat)
  case atStart => exact ⟨0, Nat.zero_le _, rfl, none, 0, HA5.out⟩
  case round =>
    obtain ⟨k, hk, rfl, b, d, A⟩ := hrel
    have HA : Hid (Rm lim w wr g (hrI r3 k) a mn c b d mm (hrL r3 k)) := A
    clear A HA5
    by_cases hlt : k < N
    · have hlt' : (k : Int) < (N : Int) := by omega
      have HLk : Hid ((hrL r3 k).length = k) := hrL_len r3 k
      have HB : Hid (wr.heap[w.heap.size + 1]? = some (.cells #[.slice a mn c, .slice b k d] 25 (0, 0))) := by have := HA.out.mb; rw [HLk.out] at this; exact this
      have x1 := cr1 HB.out
      have HSn : Hid (hrL r3 (k + 1) = hrL r3 k ++ [hrV (hrI r3 k)]) := rfl
      have HOk : Hid ((hrV (hrI r3 k)).Ok) := hrV_ok _
      have HHk : Hid (∀ W : World, Gr wr W → Calls Try.prog 42 #[.pointer (some ⟨g, 0, none⟩)] W fun e w' => e = .returned (.agg (hL (hrV (hrI r3 k))).toArray) ∧ Re w' lim g (hrI r3 (k + 1)) ∧ Ch g W w') := fun W G => HH.out W k (HA.out.gr G).re
      obtain ⟨i0, hi, hz0, hz1, hz2⟩ := infoHd
      generalize hrV (hrI r3 k) = hh at *
      have HAs : Hid ((hL hh).toArray.size = 37) := by unfold Hid; rw [List.size_toArray]; exact hL_len HOk.out
      have hlo' : w.heap.size ≤ wr.heap.size := HA.out.le
      have HOne : Hid (∀ u ∈ hL hh, u.oneCell' = true) := one_hL hh
      have HCs : Hid (hC (hrL r3 k ++ [hh]) = hC (hrL r3 k) ++ hL hh) := hC_snoc _ _
      have hl37 : (hL hh).length = 37 := hL_len HOk.out
      have hfold := fold37 hl37
      go_wp2_with fail
      go_region_law (first
          | (refine step_append_src rfl (.tmp 15) (.tmp 18) rfl Try.underlying23 hi hz0 hz1 hz2 rfl (by decide) (by simp [Act.eval, Act.put]) (by simp [Act.eval, Act.put]) (owns_gr HO1.out (by repeat (first | exact Gr.refl _ | refine Gr.drewN ?_ _ | refine Gr.drew ?_ | refine Gr.alloc ?_ _))) (src_one (q := w1.heap.size) (t := 48) (f := (0, 0)) hl37 (by first | exact heap_alloc_new _ _ | simp)) HOne.out (by unfold maxLen; omega) (by omega) (by simp; omega) ?_; intro v' w' hown hgrow; obtain ⟨b', d', ev, e9, A9⟩ := Rm.app2 (HA1.out.gr (by repeat (first | exact Gr.refl _ | refine Gr.drewN ?_ _ | refine Gr.drew ?_ | refine Gr.alloc ?_ _))) HOk.out HLk.out hgrow hown; subst ev; have HA9 : Hid (Rm lim w (w'.setCell ⟨w.heap.size + 1, 1, none⟩ (.slice b' (k + 1) d')) g (hrI r3 (k + 1)) a mn c b' d' mm (hrL r3 k ++ [hh])) := A9; have y1 := cr1 e9; have yf : w'.frozen? ⟨w.heap.size + 1, 1, none⟩ = false := fzr e9; clear e9 A9 hown hgrow)
          | (go_simp; go_wp2_with (go_at_call 42; refine (HHk.out _ (by repeat (first | exact Gr.refl _ | refine Gr.drewN ?_ _ | refine Gr.drew ?_))).mono ?_; rintro e w1 ⟨rfl, R1, C1⟩; have A1 := (HA.out.gr (by repeat (first | exact Gr.refl _ | refine Gr.drewN ?_ _ | refine Gr.drew ?_))).call R1 C1; have HA1 : Hid (Rm lim w w1 g (hrI r3 (k + 1)) a mn c b d mm (hrL r3 k)) := A1; have HO1 : Hid (w1.ownsRow w.heap.size 48 37 (.slice b k d) k (hC (hrL r3 k))) := (by have := A1.row; rw [HLk.out] at this; exact this); have HB1 : Hid (w1.heap[w.heap.size + 1]? = some (.cells #[.slice a mn c, .slice b k d] 25 (0, 0))) := (by have := A1.mb; rw [HLk.out] at this; exact this); have x2 := cr1 HB1.out; have hlo1 : w.heap.size + 1 < w1.heap.size := (gs HB1.out).1; clear A1 R1 C1)))
      all_goals
        clear y1 yf x2 hlo1 HB1 HO1 HA1
        generalize w'.setCell ⟨w.heap.size + 1, 1, none⟩ (.slice b' (k + 1) d') = w9 at *
        go_wp2_with fail
        go_roundw
        case rel => exact ⟨k + 1, by omega, by go_num, b', d', by rw [HSn.out]; exact HA9.out⟩
        case measure => simp [intOf]; omega
    · have hlt' : ¬ (k : Int) < (N : Int) := by omega
      have HA6 : Hid (Rm lim w wr g (hrI r3 N) a mn c b d mm (hrL r3 N)) := by have := HA.out; rw [show k = N by omega] at this; exact this
      clear HA hlt
      have HLN : Hid ((hrL r3 N).length = N) := hrL_len r3 N
      have HB6 : Hid (wr.heap[w.heap.size + 1]? = some (.cells #[.slice a mn c, .slice b N d] 25 (0, 0))) := by have := HA6.out.mb; rw [HLN.out] at this; exact this
      have HRB : Hid (wr.heap[w.heap.size]? = some (.cells #[.slice none 0 0, .slice none 0 0] 25 (0, 0))) := HA6.out.rb
      have p0 := cr0 HB6.out
      have p1 := cr1 HB6.out
      have q0 := cr0 HRB.out
      have q1 := cr1 HRB.out
      have f0 : wr.frozen? ⟨w.heap.size, 0, none⟩ = false := fzr HRB.out
      have f1 : wr.frozen? ⟨w.heap.size, 1, none⟩ = false := fzr HRB.out
      go_wp2_with fail
      obtain ⟨W9, e9, g1, g2⟩ := HA6.out.fin HLN.out
      rw [← e9]
      refine bodyPost_ret (v := .agg #[.slice a mn c, .slice b N d]) (results_cell_row rfl _ _ _ _ _ (0, 0) _ rfl g1 Try.underlying25 rfl iMc) rfl ⟨a, c, b, ⟨d, rfl⟩, g2⟩
end Go.Proofs.Ythgnfmbnbndeeac.Im
/-
  What package image's Get answers.
-/
namespace Go.Proofs.Ythgnfmbnbndeeac.Im
open Go.ChangeShapes Go.WideShapes Go.ChangeAt Go.RowKit Mm Hh Hc Mc
set_option linter.unusedVariables false
set_option linter.unusedSimpArgs false

/-- A value that reads as a machine. -/
def Mw (w : World) (v : Value) (m : List UInt8) (hs : List Hv) : Prop := ∃ ma mc ha hc, v = .agg #[.slice ma m.length mc, .slice ha hs.length hc] ∧ (ma = none → mc = 0) ∧ Mem w ma m.length m ∧ Hs w ha hs.length hs
theorem Mw.of {w w' : World} {v : Value} {m : List UInt8} {hs : List Hv} (h : Mw w v m hs) (G : Gr w w') : Mw w' v m hs := by
  obtain ⟨ma, mc, ha, hc, e, h1, h2, h3⟩ := h
  exact ⟨ma, mc, ha, hc, e, h1, h2.of G, h3.of G⟩
theorem mw_zero (w : World) : Mw w (.agg #[.slice none 0 0, .slice none 0 0]) [] [] := ⟨none, 0, none, 0, rfl, fun _ => rfl, ⟨rfl, fun _ => rfl, fun ad e => by cases e⟩, ⟨rfl, fun h hm => (by cases hm), fun h => absurd h (by simp)⟩⟩
/-- What Get answers: a machine and 0, or nothing and 2. -/
def GP (w : World) (yes : Bool) (m : List UInt8) (hs : List Hv) (e : Ending) (w' : World) : Prop :=
  Gr w w' ∧ ((yes = true ∧ ∃ v, e = .returned (.tuple #[v, .int .i64 0]) ∧ Mw w' v m hs) ∨ (yes = false ∧ e = .returned (.tuple #[.agg #[.slice none 0 0, .slice none 0 0], .int .i64 2])))
theorem mem_low {w : World} {a : Option Addr} {n : Nat} {b : List UInt8} (M : Mem w a n b) : 0 < n → ∀ ad, a = some ad → ad.block < w.heap.size := by
  intro h ad e
  obtain ⟨k, o, e', hb, _⟩ := M.spot h
  rw [e] at e'
  obtain rfl := Option.some.inj e'
  exact hb
theorem two_set {W : World} {k : Nat} {x y u v : Value} (e : W.heap[k]? = some (.cells #[x, y] 25 (0, 0))) : ((W.setCell ⟨k, 0, none⟩ u).setCell ⟨k, 1, none⟩ v).heap[k]? = some (.cells #[u, v] 25 (0, 0)) := by
  have e1 : (W.setCell ⟨k, 0, none⟩ u).heap[k]? = some (.cells #[u, y] 25 (0, 0)) := by rw [hss e]; simp
  rw [hss e1]; simp
theorem two_gr {w W : World} {k : Nat} {u v : Value} (G : Gr w W) (hk : w.heap.size ≤ k) : Gr w ((W.setCell ⟨k, 0, none⟩ u).setCell ⟨k, 1, none⟩ v) := (G.setCell (p := ⟨k, 0, none⟩) hk u).setCell (p := ⟨k, 1, none⟩) hk v
/-- Bytes and harts that are read, behind a machine's block that was written. -/
theorem mem_two {W : World} {k n : Nat} {x y u v : Value} {ao : Option Addr} {l : List UInt8} (M : Mem W ao n l) (e : W.heap[k]? = some (.cells #[x, y] 25 (0, 0))) (hx : ∀ z, x ≠ .int .u8 z) (hy : ∀ z, y ≠ .int .u8 z) (hu : ∀ z, u ≠ .int .u8 z) : Mem ((W.setCell ⟨k, 0, none⟩ u).setCell ⟨k, 1, none⟩ v) ao n l := by
  have no : ∀ (x y : Value), (∀ z, x ≠ .int .u8 z) → (∀ z, y ≠ .int .u8 z) → ∀ (i : Nat) (z : Int), (#[x, y] : Array Value)[i]? ≠ some (Value.int .u8 z) := by
    intro x y hx hy i z h
    match i, h with
    | 0, h => simp at h; exact hx z h
    | 1, h => simp at h; exact hy z h
    | i + 2, h => simp at h
  have e1 : (W.setCell ⟨k, 0, none⟩ u).heap[k]? = some (.cells #[u, y] 25 (0, 0)) := by rw [hss e]; simp
  exact mem_ch (mem_ch M e (no _ _ hx hy) ((Ch.refl k W).setCell 0 u)) e1 (no _ _ hu hy) ((Ch.refl k _).setCell 1 v)
theorem hs_two {W : World} {k n : Nat} {x y u v : Value} {a : Option Addr} {hs : List Hv} (H : Hs W a n hs) (e : W.heap[k]? = some (.cells #[x, y] 25 (0, 0))) : Hs ((W.setCell ⟨k, 0, none⟩ u).setCell ⟨k, 1, none⟩ v) a n hs := by
  refine ⟨H.len, H.ok, fun h0 => ?_⟩
  obtain ⟨b, o, ea, hb, hr⟩ := H.spot h0
  have nb : b ≠ k := by
    intro h
    subst h
    have l := H.len
    have q := hr 0 hs[0] (List.getElem?_eq_getElem (by omega)) 32
    have o0 := H.ok hs[0] (List.getElem_mem _)
    have hp : (hL hs[0])[32]? = some (.int .u32 hs[0].pc) := by
      unfold hL
      rw [List.getElem?_append_right (by simp [o0.len])]
      simp [o0.len]
    have q2 := q _ hp
    rw [cr e] at q2
    simp at q2
  refine ⟨b, o, ea, by simpa [World.setCell] using hb, fun i h hi j z hz => ?_⟩
  rw [← hr i h hi j z hz]
  exact World.cell?_of_block ((hso nb).trans (hso nb))
set_option maxHeartbeats 4000000 in
set_option maxRecDepth 100000 in
theorem Get_gp {w : World} {a : Option Addr} {n c : Nat} {b : List UInt8} (M : Mem w a n b) (hnc : n ≤ c) (hz : a = none → c = 0) (hn : n ≤ 140737488351232) :
    Calls Try.prog 14 #[.slice a n c] w fun e w' => GP w (gotB b) (mrM ⟨b, false⟩) (mrH ⟨b, false⟩) e w' := by
  have HR : Hid (∀ W : World, Gr w W → W.heap[w.heap.size + 1]? = some (.cells #[.slice a n c, .bool false] 74 (0, 0)) → Re W w.heap.size (w.heap.size + 1) ⟨b, false⟩) := fun W G e => by
    have hl := M.len
    refine ⟨by show b.length ≤ _; omega, a, c, ?_, ?_, hz, ?_, ?_⟩
    · show W.heap[w.heap.size + 1]? = some (.cells #[.slice a b.length c, .bool false] 74 (0, 0)); rw [hl]; exact e
    · show b.length ≤ c; omega
    · intro h ad q; exact mem_low M (by have : 0 < b.length := h; omega) ad q
    · show Mem W a b.length b; rw [hl]; exact M.of G
  have HK : Hid (∀ W : World, Gr w W → W.heap[w.heap.size + 1]? = some (.cells #[.slice a n c, .bool false] 74 (0, 0)) → Calls Try.prog 29 #[.pointer (some ⟨w.heap.size + 1, 0, none⟩)] W fun e w' => ∃ a c b' d, e = .returned (.agg #[.slice a (mrM ⟨b, false⟩).length c, .slice b' (mrH ⟨b, false⟩).length d]) ∧ (a = none → c = 0) ∧ Mem w' a (mrM ⟨b, false⟩).length (mrM ⟨b, false⟩) ∧ Hs w' b' (mrH ⟨b, false⟩).length (mrH ⟨b, false⟩) ∧ Re w' w.heap.size (w.heap.size + 1) (mrR ⟨b, false⟩) ∧ Ch (w.heap.size + 1) W w') := fun W G e => by
    have e2 : (mrH ⟨b, false⟩).length = mrN ⟨b, false⟩ := hrL_len _ _
    rw [e2]
    exact rmachine_any (HR.out W G e) G.size
  have HG : Hid (gotB b = (!(mrR ⟨b, false⟩).wrong && decide ((mrR ⟨b, false⟩).rest.length = 0) && mayM (mrM ⟨b, false⟩).length (mrH ⟨b, false⟩))) := rfl
  have HL4 : Hid ((mrM ⟨b, false⟩).length ≤ 140737488351232 ∧ (mrH ⟨b, false⟩).length ≤ 4) := by
    refine ⟨?_, ?_⟩
    · unfold mrM tkV
      have := utV_bd (⟨b, false⟩ : Rd) (most := 4096) (by omega)
      split
      · rw [List.length_take]; omega
      · simp
    · have e2 : (mrH ⟨b, false⟩).length = mrN ⟨b, false⟩ := hrL_len _ _
      have := utV_bd (m2 ⟨b, false⟩) (most := 4) (by omega)
      rw [e2]; unfold mrN; omega
  clear M HR
  generalize gotB b = yes at *
  generalize mrM ⟨b, false⟩ = mm at *
  generalize mrH ⟨b, false⟩ = hs at *
  generalize mrR ⟨b, false⟩ = rr at *
  obtain ⟨mn, hmn⟩ : ∃ q, q = mm.length := ⟨_, rfl⟩
  obtain ⟨hn', hhn⟩ : ∃ q, q = hs.length := ⟨_, rfl⟩
  have HMN : Hid (mn = mm.length ∧ hn' = hs.length) := ⟨hmn, hhn⟩
  rw [← hmn, ← hhn] at HK HL4
  rw [← hmn] at HG
  have hl1 : mn ≤ 140737488351232 := HL4.out.1
  have hl2 : hn' ≤ 4 := HL4.out.2
  clear hmn hhn HL4
  have HMay : Hid (∀ (W : World) (ma ha : Option Addr) (mc hc : Nat), Hs W ha hn' hs → Calls Try.prog 17 #[.agg #[.slice ma mn mc, .slice ha hn' hc]] W fun e w' => e = .returned (.bool (mayM mn hs)) ∧ Gr W w') := fun W ma ha mc hc H => MMay_any (ma := ma) mc hc mn H hl1 (by omega)
  generalize mayM mn hs = mb at *
  obtain ⟨rl, rw'⟩ := rr
  go_enter Try.func14, Try.ntmps14
  go_wp2_with fail
  refine (HK.out _ (((Gr.refl _).alloc _).alloc _) (heap_alloc2_new w _ _)).mono ?_
  rintro e w2 ⟨ma, mc, ha, hc, rfl, mz, M2, H2, R2, C2⟩
  have HG2 : Hid (Gr w w2) := Below.trans (((Gr.refl _).alloc _).alloc _) (C2.below (by omega) (by simp; omega))
  have HRB : Hid (w2.heap[w.heap.size]? = some (.cells #[.slice none 0 0, .slice none 0 0] 25 (0, 0))) := (C2.block _ (by simp; omega) (fun h => by injection h with h; omega)).trans (heap_alloc2_old w _ _)
  obtain ⟨ra, rc, e, _⟩ := R2.blk
  have HM2 : Hid (Mem w2 ma mn mm) := M2
  have HH2 : Hid (Hs w2 ha hn' hs) := H2
  have HZ : Hid (ma = none → mc = 0) := mz
  have x0 : w2.cell? ⟨w.heap.size + 1, 0, none⟩ = some (.slice ra rl.length rc) := cr0 e
  have x1 : w2.cell? ⟨w.heap.size + 1, 1, none⟩ = some (.bool rw') := cr1 e
  have q0 := cr0 HRB.out
  have q1 := cr1 HRB.out
  have f0 : w2.frozen? ⟨w.heap.size, 0, none⟩ = false := fzr HRB.out
  have f1 : w2.frozen? ⟨w.heap.size, 1, none⟩ = false := fzr HRB.out
  have hs2 : w.heap.size < w2.heap.size := (gs HRB.out).1
  have hs3 : w.heap.size + 1 < w2.heap.size := (gs e).1
  have hq : rl.length ≤ 140737488351232 := R2.le
  have HG : Hid (yes = (!rw' && decide (rl.length = 0) && mb)) := HG.out
  clear M2 H2 R2 C2 e HK mz
  generalize rl.length = q at *
  have HNO : Hid (yes = false → ∀ (W : World) (tmps : Array Value), tmps.getD 2 undef = .pointer (some ⟨w.heap.size, 0, none⟩) → tmps.getD 3 undef = .int .i64 2 → Gr w W → W.heap[w.heap.size]? = some (.cells #[.slice none 0 0, .slice none 0 0] 25 (0, 0)) → bodyPost Try.prog Try.f14 (fun e w' => GP w yes mm hs e w') Exit.ret ⟨tmps, []⟩ W) := fun hy W tmps t2 t3 G e =>
    bodyPost_ret (v := .tuple #[.agg #[.slice none 0 0, .slice none 0 0], .int .i64 2]) (Hr.results_cell_tmp' Try.results14 _ _ _ _ _ (0, 0) _ _ t2 t3 e Try.underlying25 rfl iMc) rfl ⟨G, .inr ⟨hy, rfl⟩⟩
  have gA : Hid (Gr w (((w2.setCell ⟨w.heap.size, 0, none⟩ (.slice none 0 0)).setCell ⟨w.heap.size, 1, none⟩ (.slice none 0 0)).alloc (.cells #[.slice ma mn mc, .slice ha hn' hc] 25))) := (two_gr HG2.out (Nat.le_refl _)).alloc _
  have eA : Hid ((((w2.setCell ⟨w.heap.size, 0, none⟩ (.slice none 0 0)).setCell ⟨w.heap.size, 1, none⟩ (.slice none 0 0)).alloc (.cells #[.slice ma mn mc, .slice ha hn' hc] 25)).heap[w.heap.size]? = some (.cells #[.slice none 0 0, .slice none 0 0] 25 (0, 0))) := Hr.heap_of_gr ((Gr.refl _).alloc _) (two_set HRB.out)
  cases rw' with
  | true =>
    have hy : Hid (yes = false) := by unfold Hid; rw [HG.out]; rfl
    clear HMay HM2 HH2
    go_wp2_with fail
    exact HNO.out hy.out _ _ rfl rfl gA.out eA.out
  | false =>
    by_cases hq0 : q = 0
    · subst hq0
      have HG' : Hid (yes = mb) := by unfold Hid; rw [HG.out]; simp
      clear HG
      go_wp2_with fail
      refine (HMay.out _ _ _ _ _ (HH2.out.of ((Gr.refl _).alloc _))).mono ?_
      rintro e w3 ⟨rfl, G3⟩
      have HG3 : Hid (Gr w2 w3) := ((Gr.refl _).alloc _).trans G3
      have HX3 : Hid (w3.heap[w2.heap.size]? = some (.cells #[.slice ma mn mc, .slice ha hn' hc] 25 (0, 0))) := Hr.heap_of_gr G3 (heap_alloc_new w2 _)
      have HR3 : Hid (w3.heap[w.heap.size]? = some (.cells #[.slice none 0 0, .slice none 0 0] 25 (0, 0))) := Hr.heap_of_gr HG3.out HRB.out
      have y0 := cr0 HX3.out
      have y1 := cr1 HX3.out
      have q0 := cr0 HR3.out
      have q1 := cr1 HR3.out
      have f0 : w3.frozen? ⟨w.heap.size, 0, none⟩ = false := fzr HR3.out
      have f1 : w3.frozen? ⟨w.heap.size, 1, none⟩ = false := fzr HR3.out
      clear G3 HMay
      cases mb with
      | false =>
        go_wp2_with fail
        exact HNO.out HG'.out _ _ rfl rfl (two_gr (HG2.out.trans HG3.out) (Nat.le_refl _)) (two_set HR3.out)
      | true =>
        go_wp2_with fail
        refine bodyPost_ret (v := .tuple #[.agg #[.slice ma mn mc, .slice ha hn' hc], .int .i64 0]) (Hr.results_cell_tmp' Try.results14 _ _ _ _ _ (0, 0) _ _ rfl rfl (two_set HR3.out) Try.underlying25 rfl iMc) rfl ⟨two_gr (HG2.out.trans HG3.out) (Nat.le_refl _), .inl ⟨HG'.out, _, rfl, ?_⟩⟩
        obtain ⟨k1, k2⟩ := HMN.out
        subst k1 k2
        exact ⟨ma, mc, ha, hc, rfl, HZ.out, mem_two (HM2.out.of HG3.out) HR3.out (fun z h => by cases h) (fun z h => by cases h) (fun z h => by cases h), hs_two (HH2.out.of HG3.out) HR3.out⟩
    · have hq1 : 0 < q := by omega
      have hy : Hid (yes = false) := by unfold Hid; rw [HG.out]; simp [hq0]
      clear HMay HM2 HH2
      go_wp2_with fail
      exact HNO.out hy.out _ _ rfl rfl gA.out eA.out
end Go.Proofs.Ythgnfmbnbndeeac.Im
/-
  What the methods of package image's writer write.
-/
namespace Go.Proofs.Ythgnfmbnbndeeac.Im
open Go.ChangeShapes Go.WideShapes Go.ChangeAt Go.RowKit Mm Hh Hc Mc
set_option linter.unusedVariables false
set_option linter.unusedSimpArgs false

/-- A writer at block g that has written the bytes l. -/
structure Wr (w : World) (base g : Nat) (l : List UInt8) : Prop where
  bg : base ≤ g
  blk : ∃ v, w.heap[g]? = some (.cells #[v] 66 (0, 0)) ∧ w.ownsRow base 5 1 v l.length (bc l)
/-- What a method of the writer leaves: of what lay below 'base' nothing has turned, nor any block that is neither a writer's nor of bytes. -/
structure Fi (base : Nat) (w w' : World) : Prop where
  below : Below base w w'
  keep : ∀ (k : Nat) (o : Array Value) (t : Nat) (f : Nat × Nat), w.heap[k]? = some (.cells o t f) → t ≠ 66 → t ≠ 5 → w'.heap[k]? = w.heap[k]?
theorem Fi.refl (base : Nat) (w : World) : Fi base w w := ⟨Below.refl _ _, fun _ _ _ _ _ _ _ => rfl⟩
theorem Fi.trans {base : Nat} {a b c : World} (h : Fi base a b) (q : Fi base b c) : Fi base a c :=
  ⟨h.below.trans q.below, fun k o t f e n1 n2 => by
    have e1 := h.keep k o t f e n1 n2
    exact (q.keep k o t f (e1.trans e) n1 n2).trans e1⟩
theorem Fi.ofGr {base : Nat} {w w' : World} (G : Gr w w') (hb : base ≤ w.heap.size) : Fi base w w' := ⟨Below.mono G hb, fun k o t f e _ _ => G.block k (gs e).1⟩
theorem Fi.size {base : Nat} {w w' : World} (h : Fi base w w') : w.heap.size ≤ w'.heap.size := h.below.size
theorem Wr.le {w : World} {base g : Nat} {l : List UInt8} (h : Wr w base g l) : base ≤ w.heap.size := by
  obtain ⟨v, e, _⟩ := h.blk
  exact Nat.le_trans h.bg (Nat.le_of_lt (gs e).1)
theorem Wr.gr {w w' : World} {base g : Nat} {l : List UInt8} (h : Wr w base g l) (G : Gr w w') : Wr w' base g l := by
  obtain ⟨v, e, O⟩ := h.blk
  exact ⟨h.bg, v, (G.block g (gs e).1).trans e, owns_gr O G⟩
theorem bc_app (a b : List UInt8) : bc (a ++ b) = bc a ++ bc b := by simp [bc]
/-- Behind an append, and the store of what came of it. -/
theorem Wr.grown {w w' : World} {base g n : Nat} {l l' : List UInt8} {v v' : Value} (h : Wr w base g l) (e : w.heap[g]? = some (.cells #[v] 66 (0, 0))) (O : w.ownsRow base 5 1 v l.length (bc l)) (q : w.grownBy w' v.ownBlock) (hn : l.length + n = (l ++ l').length) (O' : w'.ownsRow base 5 1 v' (l.length + n) (bc l ++ bc l')) :
    Wr (w'.setCell ⟨g, 0, none⟩ v') base g (l ++ l') ∧ Fi base w (w'.setCell ⟨g, 0, none⟩ v') := by
  have kp : ∀ (k : Nat) (o : Array Value) (t : Nat) (f : Nat × Nat), w.heap[k]? = some (.cells o t f) → t ≠ 5 → w'.heap[k]? = w.heap[k]? := fun k o t f hk ht =>
    q.block k (gs hk).1 (fun hh => by
      rcases O.2 with ⟨h0, _⟩ | ⟨g', cap, cur, hv, _, hg, _⟩
      · rw [h0] at hh; cases hh
      · rw [hv] at hh
        injection hh with hh
        subst hh
        exact ne_of_types hk hg ht rfl)
  have e' : w'.heap[g]? = some (.cells #[v] 66 (0, 0)) := (kp g _ _ _ e (by decide)).trans e
  refine ⟨⟨h.bg, v', by rw [hss e']; simp, ?_⟩, ?_, ?_⟩
  · rw [← hn, bc_app]
    exact owns_to O' fun k o f hk => hso (ne_of_types hk e' (by decide))
  · exact Below.setCell ((Below.refl base w).grown q h.le fun k e => (O.lt k e).1) (by exact h.bg) _
  · intro k o t f hk t1 t2
    have e1 := kp k o t f hk t2
    rw [hso (ne_of_types (e1.trans hk) e' t1)]
    exact e1
theorem four_src {w : World} {b : Nat} {a0 a1 a2 a3 : Value} {t : Nat} {f : Nat × Nat} (h : w.heap[b]? = some (.cells #[a0, a1, a2, a3] t f)) : ∀ j u, ([a0, a1, a2, a3] : List Value)[j]? = some u → w.cell? ((⟨b, 0, none⟩ : Addr).add j) = some u := by
  intro j u hj
  rw [add_at, Nat.zero_add, cr h]
  simpa using hj
theorem bc_n4 {x : Int} (h : fit4 x) : bc (n4 x) = [.int .u8 (x % 256), .int .u8 (x / 256 % 256), .int .u8 (x / 65536 % 256), .int .u8 (x / 16777216)] := by
  have e : ∀ y : Int, 0 ≤ y → y < 256 → ((UInt8.ofNat y.toNat).toNat : Int) = y := fun y h0 h1 => by rw [UInt8.toNat_ofNat']; omega
  unfold bc n4
  simp only [List.map_cons, List.map_nil]
  rw [e _ (by omega) (by omega), e _ (by omega) (by omega), e _ (by omega) (by omega), e _ (by omega) (by omega), show x / 16777216 % 256 = x / 16777216 by have := h.1; have := h.2; omega]

theorem own_slice {w : World} {base e sz n : Nat} {v : Value} {xs : List Value} (h : w.ownsRow base e sz v n xs) : ∃ a c, v = .slice a n c := by
  rcases h.2 with ⟨h0, rfl⟩ | ⟨g, cap, _, hv, _⟩
  · exact ⟨_, _, h0⟩
  · exact ⟨_, _, hv⟩

theorem grown_keep' {w w' : World} {base : Nat} {O : Value} {n : Nat} {xs : List Value} {e sz : Nat} (hO : w.ownsRow base e sz O n xs) (q : w.grownBy w' O.ownBlock) {t : Nat} (ht : t ≠ e) {k : Nat} {o : Array Value} {f : Nat × Nat} (hk : w.heap[k]? = some (.cells o t f)) : w'.heap[k]? = w.heap[k]? :=
  q.block k (gs hk).1 (fun hh => by
    rcases hO.2 with ⟨h0, _⟩ | ⟨g', cap, cur, hv, _, hg, _⟩
    · rw [h0] at hh; cases hh
    · rw [hv] at hh
      injection hh with hh
      subst hh
      exact ne_of_types hk hg ht rfl)

set_option maxHeartbeats 1000000 in
set_option maxRecDepth 100000 in
theorem numbers_any {w : World} {base g b o n c t : Nat} {f : Nat × Nat} {l : List UInt8} {cs : Array Value} {ns : List Int} (I : Wr w base g l) (hb : w.heap[b]? = some (.cells cs t f)) (t1 : t ≠ 66) (t2 : t ≠ 5) (hl : ns.length = n) (hc : ∀ i x, ns[i]? = some x → cs[o + i]? = some (.int .u32 x)) (hu : ∀ x ∈ ns, fit4 x) (hz : l.length + 4 * n ≤ 1000000) :
    Calls Try.prog 38 #[.pointer (some ⟨g, 0, none⟩), .slice (some ⟨b, o, none⟩) n c] w fun e w' => e = .returned (.tuple #[]) ∧ Wr w' base g (l ++ nB ns) ∧ Fi base w w' := by
  obtain ⟨i0, hi, hz0, hz1, hz2⟩ := info_parts info5
  have HI : Hid _ := I
  have HB : Hid _ := hb
  have HC : Hid _ := hc
  have HU : Hid _ := hu
  have HL : Hid (ns.length = n) := hl
  have HZ : Hid _ := hz
  have hn : n ≤ 1000000 := by omega
  clear I hb hc hu hl hz
  go_enter Try.func38, Try.ntmps38
  go_wp2_with fail
  go_loopw [8] (fun i wr => ∃ k : Nat, k ≤ n ∧ i = .int .i64 k ∧ Wr wr base g (l ++ nB (ns.take k)) ∧ Fi base w wr) (fun i _ => n - (intOf i).toNat)
  case atStart => exact ⟨0, Nat.zero_le _, rfl, by simpa [nB] using HI.out, Fi.refl _ _⟩
  case round =>
    obtain ⟨k, hk, rfl, I, F⟩ := hrel
    have HF : Hid (Fi base w wr) := F
    by_cases hlt : k < n
    · obtain ⟨x, hx⟩ : ∃ x, ns[k]? = some x := ⟨_, List.getElem?_eq_getElem (by rw [HL.out]; exact hlt)⟩
      have ux := HU.out x (List.mem_of_getElem? hx)
      have x0 : 0 ≤ x := ux.1
      have x1 : x < 4294967296 := ux.2
      have k1 : wr.cell? ⟨b, o + k, none⟩ = some (.int .u32 x) := (cr ((F.keep _ _ _ _ HB.out t1 t2).trans HB.out)).trans (HC.out k x hx)
      obtain ⟨v, e, O⟩ := I.blk
      obtain ⟨va, vc, rfl⟩ := own_slice O
      have HLn : Hid ((l ++ nB (ns.take k)).length + 4 ≤ 1000000) := by
        have := HZ.out
        unfold Hid
        rw [List.length_append, nB_len, List.length_take, HL.out]
        omega
      have HT : Hid (l ++ nB (ns.take (k + 1)) = (l ++ nB (ns.take k)) ++ n4 x) := by
        unfold Hid
        rw [List.take_add_one, hx, List.append_assoc]
        exact congrArg _ (nB_snoc _ _)
      generalize l ++ nB (ns.take k) = lk at *
      have HI2 : Hid (Wr wr base g lk) := I
      have HE : Hid (wr.heap[g]? = some (.cells #[.slice va lk.length vc] 66 (0, 0))) := e
      have HO : Hid (wr.ownsRow base 5 1 (.slice va lk.length vc) lk.length (bc lk)) := O
      have HX : Hid (ns[k]? = some x) := hx
      have gl : g < wr.heap.size := (gs e).1
      have hbc : Hid (bc (n4 x) = [.int .u8 (x % 256), .int .u8 (x / 256 % 256), .int .u8 (x / 65536 % 256), .int .u8 (x / 16777216)]) := bc_n4 ux
      clear ux hx I F O
      obtain ⟨q, hq⟩ : ∃ q, lk.length = q := ⟨_, rfl⟩
      have k2 : wr.cell? ⟨g, 0, none⟩ = some (.slice va q vc) := (cr0 e).trans (by rw [hq])
      have HQ : Hid (lk.length = q) := hq
      have q1 : q + 4 ≤ 1000000 := by have := HLn.out; omega
      have HO2 : Hid (wr.ownsRow base 5 1 (.slice va q vc) q (bc lk)) := by have := HO.out; rw [hq] at this; exact this
      have hbs : base ≤ wr.heap.size := HI2.out.le
      clear e hq
      go_wp2_with (at_builtin; refine wpList_append_own _ rfl (.tmp 16) (.tmp 28) 22 rfl base 5 i0 (.int .u8 0) 1 1 Try.underlying22 hi hz0 hz1 hz2 rfl (by decide) (.slice va q vc) q (bc lk) rfl (owns_gr HO2.out ((Gr.refl _).alloc _)) ⟨wr.heap.size, 0, none⟩ 4 4 [.int .u8 (x % 256), .int .u8 (x / 256 % 256), .int .u8 (x / 65536 % 256), .int .u8 (x / 16777216)] rfl rfl (four_src (heap_alloc_new wr _)) (by rw [← hbc.out]; exact bc_one _) (by unfold maxLen; omega) (by omega) (by simp; omega) ?_; intro v' w2 hown hgrow _; obtain ⟨va', vc', rfl⟩ := own_slice hown; have HW : Hid (Wr (w2.setCell ⟨g, 0, none⟩ (.slice va' (q + 4) vc')) base g (lk ++ n4 x) ∧ Fi base (wr.alloc (.cells #[.int .u8 (x % 256), .int .u8 (x / 256 % 256), .int .u8 (x / 65536 % 256), .int .u8 (x / 16777216)] 5)) (w2.setCell ⟨g, 0, none⟩ (.slice va' (q + 4) vc'))) := Wr.grown (HI2.out.gr ((Gr.refl _).alloc _)) (Hr.heap_of_gr ((Gr.refl _).alloc _) HE.out) (owns_gr HO.out ((Gr.refl _).alloc _)) (by rw [HQ.out]; exact hgrow) (n := 4) (by rw [List.length_append, n4_len]) (by rw [hbc.out, HQ.out]; exact hown); have hh : w2.heap[g]? = some (.cells #[.slice va lk.length vc] 66 (0, 0)) := (grown_keep' (owns_gr HO2.out ((Gr.refl _).alloc _)) hgrow (by decide) (Hr.heap_of_gr ((Gr.refl _).alloc _) HE.out)).trans (Hr.heap_of_gr ((Gr.refl _).alloc _) HE.out); have j0 := cr0 hh; have j1 : w2.frozen? ⟨g, 0, none⟩ = false := fzr hh; clear hown hgrow hh)
      go_roundw
      case rel => exact ⟨k + 1, by omega, by go_num, by rw [HT.out]; exact HW.out.1, HF.out.trans ((Fi.ofGr ((Gr.refl _).alloc _) hbs).trans HW.out.2)⟩
      case measure => simp [intOf]; omega
    · have ek : ns.take k = ns := by rw [List.take_of_length_le (by rw [HL.out]; omega)]
      rw [ek] at I
      have HI2 : Hid (Wr wr base g (l ++ nB ns)) := I
      clear ek I F
      go_wp2_with fail
      go_end0
      exact ⟨rfl, HI2.out, HF.out⟩
theorem told_any (b : Bool) (w : World) : Calls Try.prog 55 #[.bool b] w fun e w' => e = .returned (.int .u32 (bi b)) ∧ w = w' := by
  cases b
  all_goals
    go_enter Try.func55, Try.ntmps55
    go_wp2
    go_ret
    exact ⟨rfl, rfl⟩
end Go.Proofs.Ythgnfmbnbndeeac.Im
