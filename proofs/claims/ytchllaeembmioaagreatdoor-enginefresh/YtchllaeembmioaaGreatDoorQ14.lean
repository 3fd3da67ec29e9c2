/-
  Mq, Ep, Kk, Eo, Mh, Mr: texts of ours that lie in one file.
-/
import Derived.Test.YtchllaeembmioaaGreatDoorQ13
import Derived.Test.YtchllaeembmioaaGreatDoorQ01
import Derived.Test.YtchllaeembmioaaGreatDoorQ05
set_option linter.unusedVariables false
set_option linter.unusedSimpArgs false
set_option maxHeartbeats 8000000
set_option maxRecDepth 100000
namespace Go.Proofs.YtchllaeembmioaaGreatDoor.Mc
open Mm Hh Wd

structure Wk where
 h : Hv
 m : List UInt8
 out : List Int
 sto : List (Int × Int)
 n : Nat
def wk1 (x : Wk) : Wk := ⟨(stp x.h x.m).h, (stp x.h x.m).m, x.out ++ (stp x.h x.m).out, x.sto ++ (stp x.h x.m).sto, x.n + 1⟩
def wk (x : Wk) : Nat → Wk
 | 0 => x
 | n + 1 => if x.h.state = 0 then wk (wk1 x) n else x
theorem wk_stop {x : Wk} (h : ¬ x.h.state = 0) : ∀ n, wk x n = x
 | 0 => rfl
 | n + 1 => if_neg h
theorem wk_go {x : Wk} (h : x.h.state = 0) (n : Nat) : wk x (n + 1) = wk (wk1 x) n := if_pos h
def tk (s : Sh) (k : Nat) (x : Wk) : Sh := ⟨(lose k x.sto s.hs).set k x.h, x.m, s.out ++ x.out, s.steps + x.n⟩
def w0 (s : Sh) (k : Nat) : Wk := ⟨at' s k, s.m, [], [], 0⟩
theorem lose1_nil (h : Hv) : lose1 [] h = h := by unfold lose1; rw [if_neg]; simp [nearS]
theorem lose1_app (a b : List (Int × Int)) (h : Hv) : lose1 (a ++ b) h = lose1 b (lose1 a h) := by
 unfold lose1
 have e : nearS h.heldAt (a ++ b) = (nearS h.heldAt a || nearS h.heldAt b) := by unfold nearS; rw [List.any_append]
 rw [e]
 by_cases hh : h.held = true
 ·cases ha : nearS h.heldAt a with
  | true => simp [hh, Hv.hold]
  | false => simp [hh, ha]
 ·simp [hh]
theorem lose_nil (k : Nat) (hs : List Hv) : lose k [] hs = hs := by
 apply List.ext_getElem?
 intro j
 rw [lose_get]
 cases hs[j]? with
 | none => rfl
 | some h => simp [lose1_nil]
theorem set_at (hs : List Hv) (k : Nat) : hs.set k (hs.getD k hN) = hs := by
 apply List.ext_getElem?
 intro j
 rw [List.getElem?_set]
 split
 ·rename_i e
  subst e
  split
  ·rename_i h
   simp [List.getD, List.getElem?_eq_getElem h]
  ·rename_i h
   rw [List.getElem?_eq_none (by omega)]
 ·rfl
theorem tk_w0 (s : Sh) (k : Nat) : tk s k (w0 s k) = s := by
 unfold tk w0 at'
 simp only [lose_nil, set_at, List.append_nil, Nat.add_zero]
theorem step_tk {s : Sh} {k : Nat} (hk : k < s.hs.length) (x : Wk) : stepS (tk s k x) k = tk s k (wk1 x) := by
 have e : at' (tk s k x) k = x.h := by
  unfold at' tk
  simp [List.getD, List.getElem?_set, lose_len, hk]
 unfold stepS
 rw [e]
 unfold tk wk1
 simp only [List.append_assoc, Nat.add_assoc]
 congr 1
 apply List.ext_getElem?
 intro j
 rw [lose_get, List.getElem?_set, List.getElem?_set, List.getElem?_set, lose_get, lose_get]
 by_cases e : k = j
 ·subst e
  simp [lose_len, hk]
 ·have e2 : ¬ j = k := fun q => e q.symm
  simp only [e, e2, if_false]
  cases s.hs[j]? with
  | none => rfl
  | some h => simp [lose1_app]
theorem runs_tk {s : Sh} {k : Nat} (hk : k < s.hs.length) : ∀ (n : Nat) (x : Wk), runs (tk s k x) k n = tk s k (wk x n)
 | 0, x => rfl
 | n + 1, x => by
  have e : at' (tk s k x) k = x.h := by
   unfold at' tk
   simp [List.getD, List.getElem?_set, lose_len, hk]
  unfold runs wk
  rw [e]
  split
  ·rw [step_tk hk, runs_tk hk n]
  ·rfl
theorem runs_wk {s : Sh} {k : Nat} (hk : k < s.hs.length) (n : Nat) : runs s k n = tk s k (wk (w0 s k) n) := by
 have := runs_tk hk n (w0 s k)
 rwa [tk_w0] at this

def StOk (l : List UInt8) (p : Int × Int) : Prop := 0 ≤ p.1 ∧ 0 < p.2 ∧ p.1 + p.2 ≤ l.length
theorem sto_st {l : List UInt8} {op a : Int} (ha : 0 ≤ a) (h : stOk l op a = true) : StOk l (a, (ssz op : Nat)) := by
 unfold stOk thr at h
 rw [decide_eq_true_eq] at h
 exact ⟨ha, by simpa using h.1, h.2.2⟩
theorem eff_sto {h : Hv} (o : h.Ok) (l : List UInt8) {op a b n : Int} (ha : W a) : ∀ p ∈ (eff h l op a b n).sto, StOk l p := by
 unfold eff
 intro p hp
 split at hp
 ·simp at hp
 split at hp
 ·simp at hp
 split at hp
 ·simp at hp
 split at hp
 ·unfold efLoad at hp; split at hp <;> simp at hp
 split at hp
 ·unfold efStore at hp
  split at hp
  ·simp at hp
   subst hp
   exact sto_st (W.lo _).1 (by assumption)
  ·simp at hp
 split at hp
 ·simp at hp
 split at hp
 ·simp at hp
 split at hp
 ·unfold efAtom at hp
  split at hp
  ·unfold efLr at hp; split at hp <;> simp at hp
  split at hp
  ·unfold efSc at hp
   split at hp
   ·split at hp
    ·simp at hp
     subst hp
     exact sto_st (op := 18) ha.1 (st_of_ld (by assumption))
    ·simp at hp
   ·simp at hp
  ·unfold efAmo at hp
   split at hp
   ·simp at hp
    subst hp
    exact sto_st (op := 18) ha.1 (st_of_ld (by assumption))
   ·simp at hp
 split at hp
 ·unfold efCall at hp
  split at hp
  ·simp at hp
  ·split at hp <;> simp at hp
 split at hp <;> simp at hp
theorem stp_sto {h : Hv} (o : h.Ok) (l : List UInt8) : (∀ p ∈ (stp h l).sto, StOk l p) ∧ (stp h l).sto.length ≤ 1 := by
 unfold stp insW ins
 split
 ·split
  ·exact ⟨fun p hp => by simp at hp, by simp⟩
  ·exact ⟨eff_sto o l (W.reg o _), (eff_ok o l (W.reg o _) (W.reg o _) (W.lo _)).sto⟩
 ·exact ⟨fun p hp => by simp at hp, by simp⟩

structure WOk (x : Wk) (n : Nat) : Prop where
 ok : x.h.Ok
 may : may x.h = true
 mem : x.m.length = n
 out : x.out.length ≤ x.n
 sto : x.sto.length ≤ x.n
 bd : ∀ p ∈ x.sto, 0 ≤ p.1 ∧ 0 < p.2 ∧ p.1 + p.2 ≤ n
theorem wk1_ok {x : Wk} {n : Nat} (o : WOk x n) (hr : x.h.state = 0) : WOk (wk1 x) n := by
 have g := good_stp (rn_of o.may hr) x.m
 have s := stp_sto o.ok x.m
 refine ⟨stp_ok o.ok x.m, g.1, g.2.1.trans o.mem, ?_, ?_, fun p hp => ?_⟩
 ·have := g.2.2.2.1; have := o.out; simp only [wk1, List.length_append]; omega
 ·have := s.2; have := o.sto; simp only [wk1, List.length_append]; omega
 ·rcases List.mem_append.1 hp with h | h
  ·exact o.bd p h
  ·have := s.1 p h
   unfold StOk at this
   rwa [o.mem] at this
theorem w0_ok {s : Sh} {c n k : Nat} (f : Fit s c n) (hk : k < c) : WOk (w0 s k) n := by
 have hl : k < s.hs.length := by rw [f.len]; exact hk
 have eh : s.hs[k]? = some (at' s k) := by unfold at'; rw [List.getElem?_eq_getElem hl]; simp [List.getD, hl]
 obtain ⟨ok, mk⟩ := f.ok _ (mem_of_get eh)
 exact ⟨ok, mk, f.mem, Nat.le_refl _, Nat.le_refl _, fun p hp => by simp [w0] at hp⟩

def loses (k : Nat) (p : Int × Int) (j : Nat) (h : Hv) : Bool := decide (j ≠ k) && (h.held && near h.heldAt p.1 p.2)
def lostU (k : Nat) (p : Int × Int) (hs : List Hv) : Nat → List (Nat × Int)
 | 0 => []
 | j + 1 => lostU k p hs j ++ (if loses k p j (hs.getD j hN) = true then [(j, (hs.getD j hN).heldAt)] else [])
theorem lostU_len (k : Nat) (p : Int × Int) (hs : List Hv) : ∀ j, (lostU k p hs j).length ≤ j
 | 0 => Nat.le_refl _
 | j + 1 => by
  have := lostU_len k p hs j
  unfold lostU
  rw [List.length_append]
  split
  ·simp; omega
  ·simp; omega
theorem lostU_lt (k : Nat) (p : Int × Int) (hs : List Hv) : ∀ j, ∀ q ∈ lostU k p hs j, q.1 < j
 | 0, q, h => by simp [lostU] at h
 | j + 1, q, h => by
  unfold lostU at h
  rcases List.mem_append.1 h with h | h
  ·have := lostU_lt k p hs j q h; omega
  ·split at h
   ·simp at h; subst h; simp
   ·simp at h
def drops (hs : List Hv) (ls : List (Nat × Int)) : List Hv := ls.foldl (fun hs l => hs.set l.1 ((hs.getD l.1 hN).hold false 0)) hs
theorem drops_app (hs : List Hv) (a b : List (Nat × Int)) : drops hs (a ++ b) = drops (drops hs a) b := List.foldl_append
theorem drops_len : ∀ (ls : List (Nat × Int)) (hs : List Hv), (drops hs ls).length = hs.length
 | [], hs => rfl
 | l :: r, hs => by
  show (drops (hs.set l.1 _) r).length = _
  rw [drops_len r]; simp
theorem drops_lost (k : Nat) (p : Int × Int) (hs : List Hv) : ∀ j, j ≤ hs.length → ∀ i, (drops hs (lostU k p hs j))[i]? = if i < j then (lose k [p] hs)[i]? else hs[i]?
 | 0, _, i => by simp [lostU, drops]
 | j + 1, hj, i => by
  have ih := drops_lost k p hs j (by omega)
  have ej : (drops hs (lostU k p hs j)).getD j hN = hs.getD j hN := by
   simp only [List.getD]
   rw [ih j, if_neg (by omega)]
  have hjl : j < hs.length := by omega
  have eg : hs[j]? = some (hs.getD j hN) := by rw [List.getElem?_eq_getElem hjl]; simp [List.getD, hjl]
  have el : (lose k [p] hs)[j]? = some (if loses k p j (hs.getD j hN) = true then (hs.getD j hN).hold false 0 else hs.getD j hN) := by
   rw [lose_get, eg, Option.map_some]
   congr 1
   generalize hs.getD j hN = h
   unfold lose1 loses nearS
   by_cases e : j = k
   ·simp [e]
   ·simp [e]
  unfold lostU
  rw [drops_app]
  by_cases hl : loses k p j (hs.getD j hN) = true
  ·rw [if_pos hl] at el ⊢
   show ((drops hs (lostU k p hs j)).set j (((drops hs (lostU k p hs j)).getD j hN).hold false 0))[i]? = _
   rw [ej, List.getElem?_set]
   by_cases e : j = i
   ·subst e
    rw [if_pos rfl, if_pos (by rw [drops_len]; exact hjl), if_pos (by omega), el]
   ·rw [if_neg e, ih i]
    by_cases h2 : i < j
    ·rw [if_pos h2, if_pos (by omega)]
    ·rw [if_neg h2, if_neg (by omega)]
  ·rw [if_neg hl] at el ⊢
   show (drops hs (lostU k p hs j))[i]? = _
   rw [ih i]
   by_cases e : i = j
   ·subst e
    rw [if_neg (by omega), if_pos (by omega), el, eg]
   ·by_cases h2 : i < j
    ·rw [if_pos h2, if_pos (by omega)]
    ·rw [if_neg h2, if_neg (by omega)]
theorem drops_all (k : Nat) (p : Int × Int) (hs : List Hv) : drops hs (lostU k p hs hs.length) = lose k [p] hs := by
 apply List.ext_getElem?
 intro i
 rw [drops_lost k p hs _ (Nat.le_refl _) i]
 split
 ·rfl
 ·rename_i h
  rw [List.getElem?_eq_none (by omega), List.getElem?_eq_none (by rw [lose_len]; omega)]
theorem lose_app (k : Nat) (a b : List (Int × Int)) (hs : List Hv) : lose k (a ++ b) hs = lose k b (lose k a hs) := by
 apply List.ext_getElem?
 intro j
 rw [lose_get, lose_get, lose_get]
 cases hs[j]? with
 | none => rfl
 | some h =>
  simp only [Option.map_some]
  split
  ·rfl
  ·rw [lose1_app]
theorem meets_near {x f k n : Int} (hx0 : 0 ≤ x) (hx : x < 4294967296) (h0 : 0 ≤ f) (hk : 0 < k) (hf : f + k ≤ n) (hn : n ≤ 4096) : near x f k = (decide (x < f + k) && decide (f < x + 4)) := by
 unfold near
 by_cases a : x < f + k <;> by_cases b : f < x + 4 <;> simp [a, b, hk]
end Go.Proofs.YtchllaeembmioaaGreatDoor.Mc
namespace Go.Proofs.YtchllaeembmioaaGreatDoor.En
open Mm Wd Mi Bk Ts Kc
open Mc hiding Fit
open Hh hiding Rn

def rnW (r : Mi.Rn) : Wk := ⟨r.h, r.m, r.out, r.sto, r.n⟩
theorem rnW_b1 (r : Mi.Rn) : rnW (b1 r) = wk1 (rnW r) := rfl
theorem bst_wk (bpc last steps : Int) : ∀ (f k : Nat) (r : Mi.Rn), r.h.state = 0 → (r.n : Int) ≤ steps → ∃ c, c ≤ f ∧ rnW (bst bpc last steps f k r) = wk (rnW r) c ∧ (bst bpc last steps f k r).n = r.n + c ∧ ((bst bpc last steps f k r).n : Int) ≤ steps ∧ (0 < f → (r.n : Int) < steps → 0 < c)
 | 0, k, r, _, hn => ⟨0, Nat.le_refl _, rfl, rfl, hn, fun h => absurd h (by omega)⟩
 | f + 1, k, r, hs, hn => by
  unfold bst
  split
  ·rename_i hlt
   split
   ·refine ⟨1, by omega, ?_, rfl, ?_, fun _ _ => by omega⟩
    ·rw [rnW_b1, wk_go hs]
     rfl
    ·show ((r.n + 1 : Nat) : Int) ≤ steps
     omega
   ·rename_i hb
    have hs2 : (b1 r).h.state = 0 := by
     unfold bstop at hb
     simp only [Bool.or_eq_true, decide_eq_true_eq, not_or, Classical.not_not] at hb
     exact hb.1
    obtain ⟨c, h1, h2, h3, h4, _⟩ := bst_wk bpc last steps f (k + 1) (b1 r) hs2 (by show ((r.n + 1 : Nat) : Int) ≤ steps; omega)
    refine ⟨c + 1, by omega, ?_, ?_, h4, fun _ _ => by omega⟩
    ·rw [h2, rnW_b1, wk_go hs]
    ·rw [h3]
     show r.n + 1 + c = r.n + (c + 1)
     omega
  ·exact ⟨0, by omega, rfl, rfl, hn, fun _ h => absurd h (by assumption)⟩
structure FreshB (l : List UInt8) (b : Bv) : Prop where
 pos : 0 < b.is.length
 pc0 : 0 ≤ b.pc
 pc1 : b.pc < 4294967296
 le : b.is.length ≤ (blk l b.pc 16 0).length
 eq : b.is = ((blk l b.pc 16 0).take b.is.length).map ivX
theorem FreshB.len {l : List UInt8} {b : Bv} (h : FreshB l b) : b.is.length ≤ 16 := Nat.le_trans h.le (blk_facts l b.pc 16 0).1
theorem fresh_make {l : List UInt8} {pc : Int} (h0 : 0 ≤ pc) (h1 : pc < 4294967296) (hp : 0 < (blk l pc 16 0).length) : FreshB l ⟨pc, (blk l pc 16 0).map ivX⟩ :=
 ⟨by simpa using hp, h0, h1, by simp, by simp⟩
theorem fresh_blkd {l : List UInt8} {b : Bv} (h : FreshB l b) (hl : l.length ≤ 4096) : Blkd l b.pc (b.pc + 4 * (b.is.length : Int)) b.is.length (fun j => ldV l 13 (at4 b.pc j)) := by
 have B := blkd_of hl h.pc0 h.pc1 (Nat.lt_of_lt_of_le h.pos h.le)
 have hle := h.le
 have hf := B.fit
 exact ⟨h.pos, h.pc0, rfl, hl, by omega, fun j hj => B.at_ j (by omega), fun j hj => B.ok j (by omega), fun j hj => B.op j (by omega), fun j hj q => by have := B.fin j (by omega) q; omega⟩
theorem fresh_word {l : List UInt8} {b : Bv} (h : FreshB l b) {j : Nat} (hj : j < b.is.length) : b.is[j]? = some (ivX (ldV l 13 (at4 b.pc j))) ∧ ¬ Dc.dop (ldV l 13 (at4 b.pc j)) = 0 := by
 obtain ⟨f1, f2, _⟩ := (blk_facts l b.pc 16 0).2 j (Nat.lt_of_lt_of_le hj h.le)
 rw [Nat.zero_add] at f1 f2
 refine ⟨?_, (ft_zero f1).2⟩
 have e := h.eq
 rw [e, List.getElem?_map, List.getElem?_take_of_lt hj, f2]
 rfl
theorem fresh_in {l : List UInt8} {b : Bv} (h : FreshB l b) : ∀ i ∈ b.is, i.In := fun i hi => by
 obtain ⟨j, hj⟩ := List.mem_iff_getElem?.1 hi
 obtain ⟨e, hx⟩ := fresh_word h (List.getElem?_eq_some_iff.1 hj).1
 rw [e] at hj
 injection hj with hj
 subst hj
 have := W.ldV l 13 (at4 b.pc j)
 exact ivX_in this.1 this.2 hx
theorem codeV_at (pc : Int) (d : Iv) : ∀ (is : List Iv) (k : Nat) (bd : Nat → List Mv), (∀ j i, is[j]? = some i → bd (k + j) = mdV (at4 pc (k + j)) i) → codeV pc is k = codeK pc bd is.length k
 | [], k, bd, _ => rfl
 | i :: is, k, bd, h => by
  show _ :: (_ ++ codeV pc is (k + 1)) = _ :: (_ ++ _)
  have h0 := h 0 i rfl
  rw [Nat.add_zero] at h0
  rw [codeV_at pc d is (k + 1) bd (fun j i hi => by
   have := h (j + 1) i (by simpa using hi)
   rwa [show k + (j + 1) = k + 1 + j by omega] at this), h0]
theorem fresh_run {l : List UInt8} {b : Bv} (F : FreshB l b) (hl : l.length ≤ 4096) {h : Hv} (o : h.Ok) (hm : may h = true) (hs : h.state = 0) (hp : h.pc = b.pc) {steps : Int} (h0 : 0 ≤ steps) :
  Eqv (mplay b.pc (b.pc + 4 * (b.is.length : Int)) steps h l (codeV b.pc b.is 0)) (bst b.pc (b.pc + 4 * (b.is.length : Int)) steps b.is.length 0 (mstart h l)) := by
 have e : codeV b.pc b.is 0 = codeK b.pc (fun j => mdV (at4 b.pc j) (ivX (ldV l 13 (at4 b.pc j)))) b.is.length 0 := codeV_at b.pc ⟨0, 0, 0, 0, 0⟩ b.is 0 _ fun j i hi => by
  obtain ⟨e, _⟩ := fresh_word F (List.getElem?_eq_some_iff.1 hi).1
  rw [e] at hi
  injection hi with hi
  subst hi
  rw [Nat.zero_add]
 rw [e, ← List.append_nil (codeK _ _ _ _)]
 refine trans_run (fresh_blkd F hl) (fun j hj => ?_) (tail_nil _ _ _ _) o hm hs hp h0 (fun j hj => rfl)
 have hx := (fresh_word F hj).2
 have hb := W.ldV l 13 (at4 b.pc j)
 exact body_of hx (body_md (i := ivX (ldV l 13 (at4 b.pc j))) (ivX_in hb.1 hb.2 hx))
theorem fresh_may {l : List UInt8} {b : Bv} (F : FreshB l b) : mayC (codeV b.pc b.is 0) = true := codeV_may b.pc (fresh_in F) F.len
theorem block_run {s : Sh} {k : Nat} (hk : k < s.hs.length) {b : Bv} (F : FreshB s.m b) (hl : s.m.length ≤ 4096) (o : (at' s k).Ok) (hm : may (at' s k) = true) (hs : (at' s k).state = 0) (hp : (at' s k).pc = b.pc) {steps : Int} (h0 : 0 < steps) :
  ∃ c : Nat, 0 < c ∧ (c : Int) ≤ steps ∧ c ≤ 16 ∧ (mplay b.pc (b.pc + 4 * (b.is.length : Int)) steps (at' s k) s.m (codeV b.pc b.is 0)).n = c ∧ rnW (mplay b.pc (b.pc + 4 * (b.is.length : Int)) steps (at' s k) s.m (codeV b.pc b.is 0)) = wk (w0 s k) c ∧
   runs s k c = tk s k (rnW (mplay b.pc (b.pc + 4 * (b.is.length : Int)) steps (at' s k) s.m (codeV b.pc b.is 0))) := by
 have E := fresh_run F hl o hm hs hp (Int.le_of_lt h0)
 obtain ⟨c, h1, h2, h3, h4, h5⟩ := bst_wk b.pc (b.pc + 4 * (b.is.length : Int)) steps b.is.length 0 (mstart (at' s k) s.m) hs (by show ((0 : Nat) : Int) ≤ steps; omega)
 have eW : rnW (mplay b.pc (b.pc + 4 * (b.is.length : Int)) steps (at' s k) s.m (codeV b.pc b.is 0)) = wk (w0 s k) c := by
  have : rnW (mstart (at' s k) s.m) = w0 s k := rfl
  rw [← this, ← h2]
  unfold rnW
  rw [E.h, E.m, E.out, E.n, E.sto]
 have en : (bst b.pc (b.pc + 4 * (b.is.length : Int)) steps b.is.length 0 (mstart (at' s k) s.m)).n = c := by rw [h3]; show 0 + c = c; omega
 refine ⟨c, h5 F.pos (by show ((0 : Nat) : Int) < steps; omega), by rw [en] at h4; exact h4, Nat.le_trans h1 F.len, by rw [E.n, en], eW, ?_⟩
 rw [runs_wk hk, eW]
theorem wk_keep {n : Nat} (hn : n ≤ 4096) (bpc last : Int) : ∀ (c : Nat) (x : Wk), WOk x n → ∃ t, (wk x c).sto = x.sto ++ t ∧ WOk (wk x c) n ∧ (t.any (hitB bpc last) = false → ∀ a, 0 ≤ a → bpc ≤ a → a + 4 ≤ last → ldV (wk x c).m 13 a = ldV x.m 13 a)
 | 0, x, w => ⟨[], by show x.sto = _; simp, w, fun _ a _ _ _ => rfl⟩
 | c + 1, x, w => by
  by_cases h : x.h.state = 0
  ·rw [wk_go h]
   obtain ⟨t, e, w2, k2⟩ := wk_keep hn bpc last c (wk1 x) (wk1_ok w h)
   refine ⟨(stp x.h x.m).sto ++ t, by rw [e]; show (x.sto ++ _) ++ t = _; rw [List.append_assoc], w2, fun hno a h0 h1 h2 => ?_⟩
   rw [List.any_append, Bool.or_eq_false_iff] at hno
   rw [k2 hno.2 a h0 h1 h2]
   exact words_keep (stp_mem w.ok x.m) (bpc := bpc) (last := last) (by rw [w.mem]; exact hn) hno.1 h0 h1 h2
  ·rw [wk_stop h]
   exact ⟨[], by simp, w, fun _ a _ _ _ => rfl⟩
theorem blk_keep {l l' : List UInt8} (hl : l'.length = l.length) (pc : Int) : ∀ (n k c : Nat), c ≤ (blk l pc n k).length → (∀ j, j < c → ldV l' 13 (at4 pc (k + j)) = ldV l 13 (at4 pc (k + j))) → (blk l' pc n k).take c = (blk l pc n k).take c ∧ c ≤ (blk l' pc n k).length
 | n, k, 0, _, _ => by simp
 | 0, k, c + 1, h, _ => absurd h (by simp [blk])
 | n + 1, k, c + 1, h, hw => by
  have e0 : ldV l' 13 (at4 pc k) = ldV l 13 (at4 pc k) := hw 0 (by omega)
  have eft : ftC l' (at4 pc k) = ftC l (at4 pc k) := by
   have eo : ldOk l' 13 (at4 pc k) = ldOk l 13 (at4 pc k) := by unfold ldOk; rw [hl]
   unfold ftC
   rw [eo, e0]
  by_cases hf : ftC l (at4 pc k) = 0
  ·cases hlo : lastOp (Dc.dop (ldV l 13 (at4 pc k))) with
   | true =>
    rw [blk_last hf hlo] at h ⊢
    rw [blk_last (eft.trans hf) (by rw [e0]; exact hlo), e0]
    exact ⟨rfl, h⟩
   | false =>
    rw [blk_on hf hlo] at h ⊢
    rw [blk_on (eft.trans hf) (by rw [e0]; exact hlo), e0]
    obtain ⟨i1, i2⟩ := blk_keep hl pc n (k + 1) c (by simpa using h) (fun j hj => by
     have := hw (j + 1) (by omega)
     rwa [show k + (j + 1) = k + 1 + j by omega] at this)
    refine ⟨?_, by simpa using i2⟩
    rw [List.take_succ_cons, List.take_succ_cons, i1]
  ·rw [blk_stop hf] at h
   exact absurd h (by simp)
theorem fresh_keep {l l' : List UInt8} {b : Bv} (F : FreshB l b) (hl : l.length ≤ 4096) (hlen : l'.length = l.length) (hw : ∀ a, 0 ≤ a → b.pc ≤ a → a + 4 ≤ b.pc + 4 * (b.is.length : Int) → ldV l' 13 a = ldV l 13 a) : FreshB l' b := by
 have B := fresh_blkd F hl
 have hp := F.pc0
 obtain ⟨e1, e2⟩ := blk_keep hlen b.pc 16 0 b.is.length F.le (fun j hj => by
  rw [Nat.zero_add]
  have := B.at_ j (by omega)
  exact hw _ (by omega) (by omega) (by omega))
 exact ⟨F.pos, F.pc0, F.pc1, e2, by rw [e1]; exact F.eq⟩
theorem has_hit {b : Bv} {p : Int × Int} (hb : 0 < b.is.length) (h0 : 0 ≤ p.1) (h1 : 0 < p.2) (h2 : p.1 + p.2 ≤ 4096) : hasB b p.1 (Wd.lo (p.1 + p.2)) = hitB b.pc (b.pc + 4 * (b.is.length : Int)) p := by
 have e : Wd.lo (p.1 + p.2) = p.1 + p.2 := Int.emod_eq_of_lt (by omega) (by omega)
 unfold hasB hitB
 rw [e, decide_eq_decide, Int.max_def, Int.min_def]
 constructor
 ·intro h; (repeat' split at h) <;> omega
 ·intro h; (repeat' split) <;> omega
theorem fresh_work {s : Sh} {k c n : Nat} (hn : n ≤ 4096) (w : WOk (w0 s k) n) {b : Bv} (F : FreshB s.m b) (hno : ∀ p ∈ (wk (w0 s k) c).sto, hasB b p.1 (Wd.lo (p.1 + p.2)) = false) : FreshB (wk (w0 s k) c).m b := by
 obtain ⟨t, e, w2, hk⟩ := wk_keep hn b.pc (b.pc + 4 * (b.is.length : Int)) c (w0 s k) w
 have e2 : (wk (w0 s k) c).sto = t := e
 have hm : s.m.length = n := w.mem
 refine fresh_keep F (by omega) (w2.mem.trans hm.symm) (hk ?_)
 rw [List.any_eq_false]
 intro p hp
 rw [← e2] at hp
 have bd := w2.bd p hp
 rw [← has_hit F.pos bd.1 bd.2.1 (by omega), hno p hp]
 simp
end Go.Proofs.YtchllaeembmioaaGreatDoor.En
namespace Go.Proofs.YtchllaeembmioaaGreatDoor.Kc
open Mm Ts

def Sole (bs : List Bv) : Prop := bs.Pairwise fun a b => ¬ a.pc = b.pc
theorem place_neg {pc : Int} {bs : List Bv} {k : Nat} : (∀ b ∈ bs, ¬ b.pc = pc) → place pc bs k = -1 := fun h => place_none fun i x hx => h x (List.mem_of_getElem? hx)
theorem place_split {pc : Int} : ∀ {bs : List Bv} {k j : Nat}, place pc bs k = ((k + j : Nat) : Int) → ∃ b, bs[j]? = some b ∧ b.pc = pc
 | [], k, j, h => by unfold place at h; omega
 | b :: r, k, j, h => by
  unfold place at h
  split at h
  ·rename_i e
   have : j = 0 := by omega
   subst this
   exact ⟨b, rfl, e⟩
  ·rcases place_bd pc r (k + 1) with h2 | ⟨i, x, h2, hx⟩
   ·omega
   ·have e : j = i + 1 := by omega
    subst e
    obtain ⟨y, hy, he⟩ := place_split (bs := r) (k := k + 1) (j := i) h2
    exact ⟨y, by simpa using hy, he⟩
theorem rm_none {bs : List Bv} {k : Int} {i : Nat} (h : k < (i : Int)) : rmK k bs i = bs := by
 induction bs generalizing i with
 | nil => rfl
 | cons b r ih =>
  unfold rmK
  rw [if_neg (by omega), ih (by omega)]
theorem rm_sub : ∀ (bs : List Bv) (k : Int) (i : Nat), (rmK k bs i).Sublist bs
 | [], k, i => List.Sublist.refl _
 | b :: r, k, i => by
  unfold rmK
  split
  ·exact (rm_sub r k (i + 1)).trans (List.sublist_cons_self b r)
  ·exact (rm_sub r k (i + 1)).cons_cons b
theorem rm_gone {pc : Int} : ∀ {bs : List Bv} {i : Nat}, Sole bs → ∀ b ∈ rmK (place pc bs i) bs i, ¬ b.pc = pc
 | [], i, _, b, h => by cases h
 | c :: r, i, hs, b, h => by
  have hs2 : Sole r := (List.pairwise_cons.1 hs).2
  have hc := (List.pairwise_cons.1 hs).1
  by_cases e : c.pc = pc
  ·have ep : place pc (c :: r) i = (i : Int) := by unfold place; rw [if_pos e]
   rw [ep] at h
   unfold rmK at h
   rw [if_pos rfl, rm_none (by omega)] at h
   intro e2
   exact hc b h (e.trans e2.symm)
  ·have ep : place pc (c :: r) i = place pc r (i + 1) := by rw [place, if_neg e]
   rw [ep] at h
   unfold rmK at h
   have hne : ¬ (i : Int) = place pc r (i + 1) := by
    rcases place_bd pc r (i + 1) with h2 | ⟨j, x, h2, _⟩ <;> omega
   rw [if_neg hne] at h
   rcases List.mem_cons.1 h with rfl | h
   ·exact e
   ·exact rm_gone hs2 b h
theorem rm_one {pc : Int} : ∀ {bs : List Bv} {i : Nat}, 0 ≤ place pc bs i → (rmK (place pc bs i) bs i).length + 1 ≤ bs.length
 | [], i, h => by unfold place at h; omega
 | c :: r, i, h => by
  by_cases e : c.pc = pc
  ·have ep : place pc (c :: r) i = (i : Int) := by unfold place; rw [if_pos e]
   rw [ep]
   unfold rmK
   rw [if_pos rfl, rm_none (by omega)]
   simp
  ·have ep : place pc (c :: r) i = place pc r (i + 1) := by rw [place, if_neg e]
   rw [ep] at h ⊢
   have := rm_one (pc := pc) (bs := r) (i := i + 1) h
   unfold rmK
   have hne : ¬ (i : Int) = place pc r (i + 1) := by
    rcases place_bd pc r (i + 1) with h2 | ⟨j, x, h2, _⟩ <;> omega
   rw [if_neg hne]
   simp
   omega
theorem Sole.sub {a b : List Bv} (h : Sole b) (s : a.Sublist b) : Sole a := h.sublist s
theorem Sole.snoc {bs : List Bv} {b : Bv} (h : Sole bs) (hn : ∀ x ∈ bs, ¬ x.pc = b.pc) : Sole (bs ++ [b]) := by
 unfold Sole
 rw [List.pairwise_append]
 exact ⟨h, List.pairwise_singleton _ _, fun x hx y hy => by rw [List.mem_singleton] at hy; subst hy; exact hn x hx⟩
structure Cok (room : Int) (bs : List Bv) : Prop where
 len : (bs.length : Int) ≤ room
 sole : Sole bs
theorem keep_no {f t : Int} {bs : List Bv} : ∀ b ∈ keepL f t bs, hasB b f t = false := fun b hb => by
 have := (List.mem_filter.1 hb).2
 simpa using this
theorem Cok.put {room : Int} {bs : List Bv} (h : Cok room bs) (h0 : 0 ≤ room) (b : Bv) : Cok room (putL room bs b) ∧ (0 < room → place b.pc (putL room bs b) 0 = ((putL room bs b).length : Int) - 1 ∧ (putL room bs b)[(putL room bs b).length - 1]? = some b) ∧ (room = 0 → putL room bs b = []) := by
 have hg := rm_gone (pc := b.pc) (i := 0) h.sole
 have hsub := rm_sub bs (place b.pc bs 0) 0
 have hlen := rm_len (place b.pc bs 0) bs 0
 have hl := h.len
 have hone : 0 ≤ place b.pc bs 0 → (rmK (place b.pc bs 0) bs 0).length + 1 ≤ bs.length := rm_one
 have S := (h.sole.sub hsub).snoc hg
 have fin : ∀ (l : List Bv), (∀ x ∈ l, ¬ x.pc = b.pc) → place b.pc (l ++ [b]) 0 = (((l ++ [b]).length : Nat) : Int) - 1 ∧ (l ++ [b])[(l ++ [b]).length - 1]? = some b := fun l hn => by
  refine ⟨?_, by simp⟩
  have := place_at (pc := b.pc) (bs := l ++ [b]) (j := l.length) (k := 0) (x := b) (by simp) rfl (fun i y hi hy => by
   rw [List.getElem?_append_left hi] at hy
   exact hn y (List.mem_of_getElem? hy))
  rw [this]
  simp
 unfold putL
 generalize rmK (place b.pc bs 0) bs 0 = r at *
 split
 ·rename_i hgt
  rw [List.length_append, List.length_singleton] at hgt
  cases r with
  | nil =>
   have e0 : room = 0 := by simp at hgt; omega
   refine ⟨⟨by simp; omega, List.Pairwise.nil⟩, fun h => absurd h (by omega), fun _ => rfl⟩
  | cons x r' =>
   have e : (x :: r' ++ [b]).drop 1 = r' ++ [b] := rfl
   rw [e]
   refine ⟨⟨?_, (List.pairwise_cons.1 S).2⟩, fun _ => fin r' (fun y hy => hg y (by simp [hy])), fun e0 => ?_⟩
   ·rw [List.length_append, List.length_singleton]
    simp at hlen hgt
    omega
   ·simp at hlen
    omega
 ·rename_i hle
  refine ⟨⟨by omega, S⟩, fun _ => fin r hg, fun e0 => ?_⟩
  rw [List.length_append, List.length_singleton] at hle
  omega
theorem Sole.ahead {bs : List Bv} (h : Sole bs) {k : Nat} {b : Bv} (hb : bs[k]? = some b) : place b.pc (bs.take k) 0 = -1 := by
 refine place_neg fun x hx e => ?_
 obtain ⟨i, hi⟩ := List.mem_iff_getElem?.1 hx
 rw [List.getElem?_take] at hi
 split at hi
 ·rename_i hik
  obtain ⟨h1, e1⟩ := List.getElem?_eq_some_iff.1 hi
  obtain ⟨h2, e2⟩ := List.getElem?_eq_some_iff.1 hb
  have := List.pairwise_iff_getElem.1 h i k h1 h2 hik
  rw [e1, e2] at this
  exact this e
 ·cases hi
end Go.Proofs.YtchllaeembmioaaGreatDoor.Kc
namespace Go.Proofs.YtchllaeembmioaaGreatDoor.En
open Go.RowKit Mm Wd Mi Bk Ts Kc
open Mc hiding Fit
open Hh hiding Rn

structure Ek (room : Int) (l : List UInt8) (L : List Bv) (pu sl : Int) (puts : Nat) : Prop where
 cok : Cok room L
 fresh : ∀ b ∈ L, FreshB l b
 cnt : pu + sl + (L.length : Int) = puts
 p0 : 0 ≤ pu
 s0 : 0 ≤ sl
theorem Ek.nil {room : Int} (h : 0 ≤ room) (l : List UInt8) : Ek room l [] 0 0 0 := ⟨⟨by simpa using h, List.Pairwise.nil⟩, fun b hb => (by cases hb), rfl, by omega, by omega⟩
theorem wrap_id {x : Int} (h0 : 0 ≤ x) (h1 : x ≤ 1000000000) : wrap64 x = x := by unfold wrap64; omega
theorem put_none {room pu : Int} {L : List Bv} {b : Bv} (hp : place b.pc L 0 = -1) : putL room L b = (if room < ((L ++ [b]).length : Int) then (L ++ [b]).drop 1 else L ++ [b]) ∧ putP room pu L b = (if room < ((L ++ [b]).length : Int) then wrap64 (pu + 1) else pu) := by
 unfold putL putP
 rw [hp, rm_none (by omega)]
 exact ⟨rfl, rfl⟩
theorem put_mem {room : Int} {L : List Bv} {b x : Bv} (hp : place b.pc L 0 = -1) (hx : x ∈ putL room L b) : x ∈ L ∨ x = b := by
 rw [(put_none (pu := 0) hp).1] at hx
 have : x ∈ L ++ [b] := by
  split at hx
  ·exact List.mem_of_mem_drop hx
  ·exact hx
 simpa using this
theorem Ek.put {room : Int} {l : List UInt8} {L : List Bv} {pu sl : Int} {puts : Nat} (E : Ek room l L pu sl puts) (h0 : 0 ≤ room) (hb : puts ≤ 1000000) {b : Bv} (F : FreshB l b) (hp : place b.pc L 0 = -1) : Ek room l (putL room L b) (putP room pu L b) sl (puts + 1) := by
 obtain ⟨e1, e2⟩ := put_none (room := room) (pu := pu) hp
 have c := E.cnt
 have p0 := E.p0
 have s0 := E.s0
 refine ⟨(E.cok.put h0 b).1, fun x hx => ?_, ?_, ?_, s0⟩
 ·rcases put_mem hp hx with h | rfl
  ·exact E.fresh x h
  ·exact F
 ·rw [e1, e2]
  split
  ·rw [wrap_id (by omega) (by omega), List.length_drop, List.length_append, List.length_singleton]
   omega
  ·rw [List.length_append, List.length_singleton]
   omega
 ·rw [e2]
  split
  ·rw [wrap_id (by omega) (by omega)]
   omega
  ·exact p0
def keepS (ss : List (Int × Int)) (L : List Bv) : List Bv := ss.foldl (fun L p => keepL p.1 (Wd.lo (p.1 + p.2)) L) L
theorem keepS_snoc (ss : List (Int × Int)) (p : Int × Int) (L : List Bv) : keepS (ss ++ [p]) L = keepL p.1 (Wd.lo (p.1 + p.2)) (keepS ss L) := by
 unfold keepS
 rw [List.foldl_append]
 rfl
theorem keepS_sub : ∀ (ss : List (Int × Int)) (L : List Bv), (keepS ss L).Sublist L
 | [], L => List.Sublist.refl _
 | p :: r, L => (keepS_sub r _).trans List.filter_sublist
theorem keepS_no : ∀ (ss : List (Int × Int)) (L : List Bv), ∀ b ∈ keepS ss L, ∀ p ∈ ss, hasB b p.1 (Wd.lo (p.1 + p.2)) = false
 | [], L, b, hb, p, hp => by cases hp
 | q :: r, L, b, hb, p, hp => by
  rcases List.mem_cons.1 hp with rfl | hp
  ·exact keep_no b ((keepS_sub r _).subset hb)
  ·exact keepS_no r _ b hb p hp
theorem keepS_len (ss : List (Int × Int)) (p : Int × Int) (L : List Bv) : (keepL p.1 (Wd.lo (p.1 + p.2)) (keepS ss L)).length ≤ (keepS ss L).length := List.length_filter_le _ _
theorem Ek.work {room : Int} {s : Sh} {k c n : Nat} {L : List Bv} {pu sl sl' : Int} {puts : Nat} (E : Ek room s.m L pu sl puts) (hn : n ≤ 4096) (w : WOk (w0 s k) n) (hs : 0 ≤ sl') (hc : sl' + ((keepS (wk (w0 s k) c).sto L).length : Int) = sl + (L.length : Int)) : Ek room (wk (w0 s k) c).m (keepS (wk (w0 s k) c).sto L) pu sl' puts := by
 have sub := keepS_sub (wk (w0 s k) c).sto L
 have c0 := E.cnt
 refine ⟨⟨?_, E.cok.sole.sub sub⟩, fun b hb => ?_, by omega, E.p0, hs⟩
 ·have := sub.length_le
  have := E.cok.len
  omega
 ·exact fresh_work hn w (E.fresh b (sub.subset hb)) (keepS_no _ L b hb)
theorem Ek.same {room : Int} {l : List UInt8} {L : List Bv} {pu sl : Int} {puts : Nat} (E : Ek room l L pu sl puts) (hr : room ≤ 64) : L.length ≤ 64 := by
 have := E.cok.len
 omega
theorem pl_in {b : Bv} {L : List Bv} {i : Nat} (h : L[i]? = some b) : 0 ≤ place b.pc L 0 := by
 rcases place_bd b.pc L 0 with h2 | ⟨j, x, h2, _⟩
 ·exfalso
  have : ∀ (l : List Bv) (k i : Nat), l[i]? = some b → 0 ≤ place b.pc l k := by
   intro l
   induction l with
   | nil => intro k i h; simp at h
   | cons c r ih =>
    intro k i h
    unfold place
    split
    ·omega
    ·rename_i hc
     cases i with
     | zero => simp at h; subst h; exact absurd rfl hc
     | succ i => exact ih (k + 1) i (by simpa using h)
  have := this L 0 i h
  omega
 ·omega
theorem Ek.found {room : Int} {l : List UInt8} {L : List Bv} {pu sl : Int} {puts : Nat} (E : Ek room l L pu sl puts) {pc : Int} (h : 0 ≤ place pc L 0) : fnd pc L ∈ L ∧ (fnd pc L).pc = pc ∧ FreshB l (fnd pc L) := by
 rcases place_bd pc L 0 with h2 | ⟨j, x, h2, hx⟩
 ·omega
 ·obtain ⟨b, hb, hpc⟩ := place_split (k := 0) h2
  have e : fnd pc L = b := by
   unfold fnd
   rw [if_pos h, h2, show (((0 + j : Nat) : Int)).toNat = j by omega, List.getD, hb]
   rfl
  have hm := List.mem_of_getElem? hb
  rw [e]
  exact ⟨hm, hpc, E.fresh b hm⟩
structure Kept (room : Int) (l : List UInt8) (D : Prop) (L : List Bv) (pu sl : Int) : Prop where
 cok : Cok room L
 fresh : ∀ b ∈ L, FreshB l b
 some : room = 64 → D → L ≠ [] ∨ ¬ pu = 0 ∨ ¬ sl = 0
def DidF (m : List UInt8) (hs : List Hv) (ps : List (Int × Int)) : Prop := ∃ (p : Int × Int) (h : Hv), ps[0]? = some p ∧ 0 < p.2 ∧ hs[p.1.toNat]? = some h ∧ h.state = 0 ∧ 0 < (blk m h.pc 16 0).length
end Go.Proofs.YtchllaeembmioaaGreatDoor.En
namespace Go.Proofs.YtchllaeembmioaaGreatDoor.Mc
open Go.ChangeShapes Go.WideShapes Go.ChangeAt Go.RowKit Mm Hh

structure Hs (w : World) (ao : Option Addr) (n : Nat) (hs : List Hv) : Prop where
 len : hs.length = n
 ok : ∀ h ∈ hs, h.Ok
 spot : 0 < n → ∃ b o, ao = some ⟨b, o, none⟩ ∧ b < w.heap.size ∧ ∀ i h, hs[i]? = some h → w.rangeAt b (o + i * 37) (hL h)
structure Ps (w : World) (ao : Option Addr) (n : Nat) (ps : List (Int × Int)) : Prop where
 len : ps.length = n
 spot : 0 < n → ∃ b o, ao = some ⟨b, o, none⟩ ∧ b < w.heap.size ∧ ∀ i p, ps[i]? = some p → w.cell? ⟨b, o + i * 2, none⟩ = some (.int .i64 p.1) ∧ w.cell? ⟨b, o + i * 2 + 1, none⟩ = some (.int .i64 p.2)
theorem Hs.of {w w' : World} {ao : Option Addr} {n : Nat} {hs : List Hv} (h : Hs w ao n hs) (g : Gr w w') : Hs w' ao n hs :=
 ⟨h.len, h.ok, fun hn => by
  obtain ⟨b, o, e, hb, hc⟩ := h.spot hn
  exact ⟨b, o, e, Nat.lt_of_lt_of_le hb g.size, fun i q hq j v hv => (g.cell _ (by exact hb)).trans (hc i q hq j v hv)⟩⟩
theorem Ps.of {w w' : World} {ao : Option Addr} {n : Nat} {ps : List (Int × Int)} (h : Ps w ao n ps) (g : Gr w w') : Ps w' ao n ps :=
 ⟨h.len, fun hn => by
  obtain ⟨b, o, e, hb, hc⟩ := h.spot hn
  exact ⟨b, o, e, Nat.lt_of_lt_of_le hb g.size, fun i q hq => ⟨(g.cell _ (by exact hb)).trans (hc i q hq).1, (g.cell _ (by exact hb)).trans (hc i q hq).2⟩⟩⟩
def pickOk (c : Nat) (p : Int × Int) : Bool := decide (0 ≤ p.1 ∧ p.1 < c ∧ 0 ≤ p.2 ∧ p.2 ≤ 400)
def wrong (m : List UInt8) (hs : List Hv) (ps : List (Int × Int)) : Int :=
 if 4096 < m.length ∨ hs.length < 1 ∨ 4 < hs.length then 2 else if hs.all may = false then 2 else if 300 < ps.length then 1 else if ps.all (pickOk hs.length) = false then 3 else 0
theorem all_take {α : Type} (f : α → Bool) (l : List α) (k : Nat) (x : α) (h : l[k]? = some x) : (l.take (k + 1)).all f = ((l.take k).all f && f x) := by
 rw [List.take_add_one, h]
 simp
theorem all_false {α : Type} {f : α → Bool} {l : List α} {k : Nat} {x : α} (h : l[k]? = some x) (hx : f x = false) : l.all f = false := by
 rw [List.all_eq_false]
 exact ⟨x, List.mem_of_getElem? h, by simp [hx]⟩
end Go.Proofs.YtchllaeembmioaaGreatDoor.Mc
namespace Go.Proofs.YtchllaeembmioaaGreatDoor.Mc
open Go.ChangeShapes Go.WideShapes Go.ChangeAt Go.RowKit Mm Hh

def hC (hs : List Hv) : List Value := hs.flatMap hL
theorem hC_len : ∀ {hs : List Hv}, (∀ h ∈ hs, h.Ok) → (hC hs).length = hs.length * 37
 | [], _ => rfl
 | h :: r, o => by
  have ih := hC_len (hs := r) (fun q hq => o q (by simp [hq]))
  unfold hC at ih ⊢
  simp only [List.flatMap_cons, List.length_append, List.length_cons, hL_len (o h (by simp)), ih]
  omega
theorem hC_get : ∀ {hs : List Hv}, (∀ h ∈ hs, h.Ok) → ∀ {i j : Nat} {h : Hv}, hs[i]? = some h → j < 37 → (hC hs)[i * 37 + j]? = (hL h)[j]?
 | [], _, i, j, h, hi, _ => by simp at hi
 | q :: r, o, 0, j, h, hi, hj => by
  simp at hi
  subst hi
  unfold hC
  rw [List.flatMap_cons, Nat.zero_mul, Nat.zero_add, List.getElem?_append_left (by rw [hL_len (o q (by simp))]; exact hj)]
 | q :: r, o, i + 1, j, h, hi, hj => by
  have ih := hC_get (hs := r) (fun q hq => o q (by simp [hq])) (i := i) (j := j) (h := h) (by simpa using hi) hj
  have lq := hL_len (o q (by simp))
  unfold hC at ih ⊢
  rw [List.flatMap_cons, List.getElem?_append_right (by omega), lq, ← ih]
  congr 1
  omega
theorem hC_set : ∀ {hs : List Hv}, (∀ h ∈ hs, h.Ok) → ∀ {i j : Nat} {h h' : Hv} {v : Value}, hs[i]? = some h → j < 37 → (hL h).set j v = hL h' → (hC hs).set (i * 37 + j) v = hC (hs.set i h')
 | [], _, i, j, h, h', v, hi, _, _ => by simp at hi
 | q :: r, o, 0, j, h, h', v, hi, hj, e => by
  simp at hi
  subst hi
  unfold hC
  rw [List.flatMap_cons, Nat.zero_mul, Nat.zero_add, List.set_append_left _ _ (by rw [hL_len (o q (by simp))]; exact hj), e]
  rfl
 | q :: r, o, i + 1, j, h, h', v, hi, hj, e => by
  have ih := hC_set (hs := r) (fun q hq => o q (by simp [hq])) (i := i) (j := j) (h := h) (h' := h') (v := v) (by simpa using hi) hj e
  have lq := hL_len (o q (by simp))
  unfold hC at ih ⊢
  rw [List.flatMap_cons, List.set_append_right _ _ (by omega), lq, show (i + 1) * 37 + j - 37 = i * 37 + j by omega, ih]
  rfl
structure HRow (w : World) (g : Nat) (hs : List Hv) : Prop where
 ok : ∀ h ∈ hs, h.Ok
 row : ∃ rest : List Value, w.heap[g]? = some (.cells (hC hs ++ rest).toArray 51 (0, 0))
theorem HRow.cell {w : World} {g : Nat} {hs : List Hv} (r : HRow w g hs) {i j : Nat} {h : Hv} (hi : hs[i]? = some h) (hj : j < 37) : w.cell? ⟨g, i * 37 + j, none⟩ = (hL h)[j]? := by
 obtain ⟨rest, e⟩ := r.row
 have li : i < hs.length := (List.getElem?_eq_some_iff.1 hi).1
 rw [cell_of_row _ _ _ _ _ _ e, List.getElem?_toArray, List.getElem?_append_left (by rw [hC_len r.ok]; omega), hC_get r.ok hi hj]
theorem HRow.range {w : World} {g : Nat} {hs : List Hv} (r : HRow w g hs) {i : Nat} {h : Hv} (hi : hs[i]? = some h) : w.rangeAt g (i * 37) (hL h) := fun j v hv => by
 have hj : j < 37 := by have := (List.getElem?_eq_some_iff.1 hv).1; rwa [hL_len (r.ok h (List.mem_of_getElem? hi))] at this
 rw [r.cell hi hj]
 exact hv
theorem HRow.fz {w : World} {g : Nat} {hs : List Hv} (r : HRow w g hs) (j : Nat) : w.frozen? ⟨g, j, none⟩ = false := by
 obtain ⟨rest, e⟩ := r.row
 exact frozen_of_row _ _ j _ _ e
theorem HRow.there {w : World} {g : Nat} {hs : List Hv} (r : HRow w g hs) {i : Nat} {h : Hv} (hi : hs[i]? = some h) : w.there g (i * 37) 37 := fun j hj => by
 refine ⟨?_, r.fz _⟩
 rw [r.cell hi hj, List.getElem?_eq_getElem (by rw [hL_len (r.ok h (List.mem_of_getElem? hi))]; exact hj)]
 rfl
theorem ok_set {hs : List Hv} (o : ∀ h ∈ hs, h.Ok) (i : Nat) {h' : Hv} (o' : h'.Ok) : ∀ h ∈ hs.set i h', h.Ok := fun h hm => by
 rcases List.mem_or_eq_of_mem_set hm with h1 | rfl
 ·exact o h h1
 ·exact o'
theorem HRow.set {w : World} {g : Nat} {hs : List Hv} (r : HRow w g hs) {i j : Nat} {h h' : Hv} {v : Value} (hi : hs[i]? = some h) (hj : j < 37) (e : (hL h).set j v = hL h') (o' : h'.Ok) : HRow (w.setCell ⟨g, i * 37 + j, none⟩ v) g (hs.set i h') := by
 obtain ⟨rest, q⟩ := r.row
 have li : i < hs.length := (List.getElem?_eq_some_iff.1 hi).1
 refine ⟨ok_set r.ok i o', rest, ?_⟩
 rw [heap_setCell_same _ _ _ _ _ _ q]
 simp only [List.setIfInBounds_toArray]
 rw [List.set_append_left _ _ (by rw [hC_len r.ok]; omega), hC_set r.ok hi hj e]
theorem heap_setCells {t : Nat} (g : Nat) : ∀ (vs : List Value) (o : Nat) (w : World) (cs : List Value), w.heap[g]? = some (.cells cs.toArray t (0, 0)) → o + vs.length ≤ cs.length → (w.setCells g o vs).heap[g]? = some (.cells (cs.take o ++ vs ++ cs.drop (o + vs.length)).toArray t (0, 0))
 | [], o, w, cs, h, _ => by simp [World.setCells, h]
 | v :: r, o, w, cs, h, hl => by
  rw [World.setCells]
  have h1 := heap_setCell_same w g o _ _ v h
  simp only [List.setIfInBounds_toArray] at h1
  simp only [List.length_cons] at hl
  rw [heap_setCells g r (o + 1) _ (cs.set o v) h1 (by simp; omega)]
  have e1 : (cs.set o v).take (o + 1) = cs.take o ++ [v] := by
   rw [List.take_add_one, List.take_set, List.set_eq_of_length_le (by simp; omega)]
   simp [show o < cs.length by omega]
  have e2 : (cs.set o v).drop (o + 1 + r.length) = cs.drop (o + (r.length + 1)) := by
   rw [List.drop_set_of_lt (by omega)]
   congr 1
   omega
  rw [e1, e2]
  simp only [List.length_cons, List.append_assoc, List.cons_append, List.nil_append]
theorem hC_put : ∀ {hs : List Hv}, (∀ h ∈ hs, h.Ok) → ∀ {i : Nat} {h' : Hv}, i < hs.length → h'.Ok → (hC hs).take (i * 37) ++ hL h' ++ (hC hs).drop (i * 37 + 37) = hC (hs.set i h')
 | [], _, i, h', hi, _ => by simp at hi
 | q :: r, o, 0, h', hi, o' => by
  have lq := hL_len (o q (by simp))
  unfold hC
  rw [List.flatMap_cons, Nat.zero_mul, List.take_zero, List.nil_append, Nat.zero_add, List.drop_append, lq, List.drop_eq_nil_of_le (by omega)]
  simp [List.set_cons_zero]
 | q :: r, o, i + 1, h', hi, o' => by
  have ih := hC_put (hs := r) (fun q hq => o q (by simp [hq])) (i := i) (h' := h') (by simpa using hi) o'
  have lq := hL_len (o q (by simp))
  unfold hC at ih ⊢
  rw [List.flatMap_cons, List.take_append, List.drop_append, lq, List.take_of_length_le (by omega), List.drop_eq_nil_of_le (by omega), List.nil_append, show (i + 1) * 37 - 37 = i * 37 by omega, show (i + 1) * 37 + 37 - 37 = i * 37 + 37 by omega, List.set_cons_succ, List.flatMap_cons, ← ih]
  simp only [List.append_assoc]
theorem HRow.put {w : World} {g : Nat} {hs : List Hv} (r : HRow w g hs) {i : Nat} (hi : i < hs.length) {h' : Hv} (o' : h'.Ok) : HRow (w.setCells g (i * 37) (hL h')) g (hs.set i h') := by
 obtain ⟨rest, q⟩ := r.row
 have lc := hC_len r.ok
 have l' := hL_len o'
 refine ⟨ok_set r.ok i o', rest, ?_⟩
 rw [heap_setCells g (hL h') (i * 37) w _ q (by rw [List.length_append, lc, l']; omega), l', List.take_append_of_le_length (by rw [lc]; omega), List.drop_append_of_le_length (by rw [lc]; omega), ← hC_put r.ok hi o']
 simp only [List.append_assoc]
theorem HRow.own {w : World} {base g n cap : Nat} {hs : List Hv} (o : ∀ h ∈ hs, h.Ok) (h : w.ownsRow base 51 37 (.slice (some ⟨g, 0, none⟩) n cap) n (hC hs)) : HRow w g hs := by
 obtain ⟨_, hc⟩ := h
 rcases hc with ⟨h0, _⟩ | ⟨g', cap', cur, hv, hb, hg, hn, hm, hs', htake⟩
 ·cases h0
 ·simp only [Value.slice.injEq, Option.some.injEq, Addr.mk.injEq, true_and, and_true] at hv
  obtain ⟨rfl, rfl⟩ := hv
  refine ⟨o, cur.toList.drop (n * 37), ?_⟩
  rw [← htake, List.take_append_drop]
  exact hg
theorem hC_one (hs : List Hv) : ∀ u ∈ hC hs, u.oneCell' = true := by
 intro u hu
 obtain ⟨h, _, hm⟩ := List.mem_flatMap.1 hu
 have := Array.all_eq_true_iff_forall_mem.1 (one_hA h) u (by simpa [hA] using hm)
 exact this
theorem Hs.src {w : World} {ad : Addr} {n : Nat} {hs : List Hv} (h : Hs w (some ad) n hs) : ∀ j u, (hC hs)[j]? = some u → w.cell? (ad.add j) = some u := by
 intro j u hj
 have hl := hC_len h.ok
 have hjl : j < hs.length * 37 := by rw [← hl]; exact (List.getElem?_eq_some_iff.1 hj).1
 have hlen := h.len
 obtain ⟨b, o, e, _, hc⟩ := h.spot (by omega)
 obtain rfl := Option.some.inj e
 have hi : j / 37 < hs.length := by omega
 have e1 : hs[j / 37]? = some hs[j / 37] := List.getElem?_eq_getElem hi
 have g := hC_get h.ok (j := j % 37) e1 (by omega)
 rw [show j / 37 * 37 + j % 37 = j by omega, hj] at g
 have := hc _ _ e1 (j % 37) u g.symm
 rw [add_at]
 rwa [show o + j / 37 * 37 + j % 37 = o + j by omega] at this
end Go.Proofs.YtchllaeembmioaaGreatDoor.Mc
