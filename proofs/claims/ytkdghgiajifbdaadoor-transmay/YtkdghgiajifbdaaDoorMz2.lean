/-
  Rows of small steps, as plain data: cut in two, and how much they make.
-/
import Derived.Test.YtkdghgiajifbdaaDoorMz
namespace Go.Proofs.YtkdghgiajifbdaaDoor.Mi
open Mm Wd Hh
set_option linter.unusedVariables false

variable {r : Rn} {code : List Mv} {j : Nat} {i : Mv}
theorem mrun_over (bf bt steps : Int) (h : r.over = true) : ∀ l, mrun bf bt steps r l = r
  | [] => rfl
  | i :: is => by unfold mrun; rw [if_pos h]
theorem mrun_append (bf bt steps : Int) : ∀ (l k : List Mv) (r : Rn), mrun bf bt steps r (l ++ k) = mrun bf bt steps (mrun bf bt steps r l) k
  | [], k, r => rfl
  | i :: is, k, r => by
    by_cases h : r.over = true
    · rw [mrun_over _ _ _ h, mrun_over _ _ _ h, mrun_over _ _ _ h]
    · rw [List.cons_append, mrun, if_neg h, mrun_append bf bt steps is k, mrun, if_neg h]
theorem mrun_take (bf bt steps : Int) (hi : code[j]? = some i) (ho : (mrun bf bt steps r (code.take j)).over = false) : mrun bf bt steps r (code.take (j + 1)) = mic bf bt steps (mrun bf bt steps r (code.take j)) i := by
  rw [List.take_add_one, hi, mrun_append]
  show mrun bf bt steps _ [i] = _
  rw [mrun, if_neg (by simp [ho]), mrun]
theorem mrun_done (bf bt steps : Int) (ho : (mrun bf bt steps r (code.take j)).over = true) : mrun bf bt steps r code = mrun bf bt steps r (code.take j) := by
  have e := mrun_append bf bt steps (code.take j) (code.drop j) r
  rw [List.take_append_drop] at e
  rw [e, mrun_over _ _ _ ho]
/-- A small step makes at most one more of each, and leaves the memory as long as it was. -/
structure Bd (r r' : Rn) : Prop where
  m : r'.m.length = r.m.length
  sto : r'.sto.length ≤ r.sto.length + 1
  out : r'.out.length ≤ r.out.length + 1
  n : r'.n ≤ r.n + 1
theorem Bd.refl (r : Rn) : Bd r r := ⟨rfl, by omega, by omega, by omega⟩
theorem bd_put {r' : Rn} (h : Bd r r') (k x : Int) : Bd r (r'.put k x) := by
  unfold Rn.put
  split
  · exact ⟨h.m, h.sto, h.out, h.n⟩
  · exact ⟨h.m, h.sto, h.out, h.n⟩
theorem stL_length {l : List UInt8} {op a x : Int} (h : stOk l op a = true) : (stL l op a x).length = l.length := by
  unfold stL
  rw [if_pos h, len_put]
theorem bd_trap (r : Rn) (c : Int) : Bd r (r.trap c) := ⟨rfl, by simp [Rn.trap], by simp [Rn.trap], by simp [Rn.trap]⟩
theorem bd_stop (r : Rn) (c : Int) : Bd r (r.stop c) := ⟨rfl, by simp [Rn.stop], by simp [Rn.stop], by simp [Rn.stop]⟩
theorem bd_stored {h : Hv} {m : List UInt8} (hm : m.length = r.m.length) (bf bt p : Int) (k : Nat) : Bd r ({ r with h := h, m := m }.stored bf bt p k) := ⟨hm, by simp [Rn.stored], by simp [Rn.stored], by simp [Rn.stored]⟩
theorem bd_hart (r : Rn) (h : Hv) : Bd r { r with h := h } := ⟨rfl, by simp, by simp, by simp⟩
theorem bd_mOp (bf bt : Int) (r : Rn) (c op : Int) (i : Mv) : Bd r (mOp bf bt r c op i) := by
  unfold mOp
  split
  · split
    · exact bd_stop r _
    · exact Bd.refl r
  split
  · unfold mLoad
    split
    · exact bd_put (Bd.refl r) _ _
    · exact bd_trap r _
  split
  · unfold mStore
    split
    · rename_i h
      exact bd_stored (h := r.h) (stL_length h) _ _ _ _
    · exact bd_trap r _
  split
  · exact bd_put (Bd.refl r) _ _
  split
  · exact bd_put (Bd.refl r) _ _
  split
  · unfold mAtom
    split
    · unfold mLr
      split
      · exact bd_put (bd_hart r _) _ _
      · exact bd_trap r _
    split
    · unfold mSc
      split
      · rename_i h
        split
        · exact bd_put (bd_stored (stL_length (st_of_ld h)) _ _ _ _) _ _
        · exact bd_put (bd_hart r _) _ _
      · exact bd_trap r _
    · unfold mAmo
      split
      · rename_i h
        exact bd_put (bd_stored (h := r.h) (stL_length (st_of_ld h)) _ _ _ _) _ _
      · exact bd_trap r _
  · exact Bd.refl r
theorem bd_mic (bf bt steps : Int) (r : Rn) (i : Mv) : Bd r (mic bf bt steps r i) := by
  unfold mic
  split
  · unfold mAt
    split
    · exact bd_stop r _
    · exact ⟨rfl, by simp, by simp, by simp⟩
  split
  · exact bd_put (Bd.refl r) _ _
  split
  · exact bd_stop r _
  split
  · exact bd_stop r _
  split
  · unfold mCall
    split
    · exact ⟨rfl, by simp, by simp, by simp⟩
    split
    · exact ⟨rfl, by simp, by simp, by simp⟩
    · exact bd_trap r _
  split
  · exact bd_trap r _
  · exact bd_mOp bf bt r _ _ i
theorem bd_mrun (bf bt steps : Int) (r : Rn) (code : List Mv) : ∀ j, (mrun bf bt steps r (code.take j)).m.length = r.m.length ∧ (mrun bf bt steps r (code.take j)).sto.length ≤ r.sto.length + j ∧ (mrun bf bt steps r (code.take j)).out.length ≤ r.out.length + j ∧ (mrun bf bt steps r (code.take j)).n ≤ r.n + j
  | 0 => ⟨rfl, by simp [mrun], by simp [mrun], by simp [mrun]⟩
  | j + 1 => by
    obtain ⟨h1, h2, h3, h4⟩ := bd_mrun bf bt steps r code j
    cases hi : code[j]? with
    | none =>
      have e : code.take (j + 1) = code.take j := by rw [List.take_add_one, hi]; simp
      rw [e]
      exact ⟨h1, by omega, by omega, by omega⟩
    | some i =>
      cases ho : (mrun bf bt steps r (code.take j)).over with
      | false =>
        rw [mrun_take bf bt steps hi ho]
        have b := bd_mic bf bt steps (mrun bf bt steps r (code.take j)) i
        have b2 := b.sto
        have b3 := b.out
        have b4 := b.n
        exact ⟨b.m.trans h1, by omega, by omega, by omega⟩
      | true =>
        have e : mrun bf bt steps r (code.take (j + 1)) = mrun bf bt steps r (code.take j) := by
          rw [List.take_add_one, hi, mrun_append, mrun_over _ _ _ ho]
        rw [e]
        exact ⟨h1, by omega, by omega, by omega⟩
theorem micOk_named (h : micOk i = true) : 0 ≤ named i.op ∧ (0 ≤ i.d ∧ i.d < 36) ∧ (0 ≤ i.a ∧ i.a < 36) ∧ 0 ≤ i.b ∧ i.b < 36 := by
  unfold micOk regOk at h
  simp only [Bool.and_eq_true, decide_eq_true_eq] at h
  obtain ⟨h1, _, ⟨_, h2⟩, ⟨_, h3⟩, ⟨_, h4⟩⟩ := h
  exact ⟨h1, h2, h3, h4⟩
end Go.Proofs.YtkdghgiajifbdaaDoor.Mi
