/-
  Iq, Hm2, Ref1Walks: texts of ours that lie in one file.
-/
import Derived.Test.YthgnfmbnbndeeacG03
import Derived.Deep.RegionLaw
import Derived.Test.YthgnfmbnbndeeacRows
import Derived.Test.YthgnfmbnbndeeacG01
import Derived.WalkKit
import Derived.ProofKit
import Derived.OpenShut
/-
  What the document's Get reads of bytes, as plain data.
-/
namespace Go.Proofs.Ythgnfmbnbndeeac.Im
open Mm Hh Mc
set_option linter.unusedVariables false

/-- A hart whose first registers are f's. -/
def ptF (f : Nat → Int) (i : Nat) : List Int := (List.range i).map f ++ List.replicate (32 - i) 0
/-- The hart whose bytes begin at 'fr'. -/
def rdR (b : List UInt8) (fr k : Nat) : Int := raw b (fr + 4 * k) 4
def rdH (b : List UInt8) (fr : Nat) : Hv := ⟨ptF (rdR b fr) 32, rdR b fr 32, (rdR b fr 33 == 1), rdR b fr 34, rdR b fr 35, rdR b fr 36⟩
def rdL (b : List UInt8) (fr : Nat) : Nat → List Hv
  | 0 => []
  | i + 1 => rdL b fr i ++ [rdH b (fr + 148 * i)]
theorem rdL_len (b : List UInt8) (fr : Nat) : ∀ i, (rdL b fr i).length = i
  | 0 => rfl
  | i + 1 => by simp [rdL, rdL_len b fr i]
theorem rdR_u4 (b : List UInt8) (fr k : Nat) : fit4 (rdR b fr k) := raw_u4 _ _
theorem ptF_len (f : Nat → Int) {i : Nat} (hi : i ≤ 32) : (ptF f i).length = 32 := by simp [ptF]; omega
theorem ptF_mem {f : Nat → Int} (hf : ∀ k, fit4 (f k)) {i : Nat} : ∀ n ∈ ptF f i, fit4 n := by
  intro n hn
  simp only [ptF, List.mem_append, List.mem_map, List.mem_replicate] at hn
  rcases hn with ⟨k, _, rfl⟩ | ⟨_, rfl⟩
  · exact hf k
  · exact ⟨by omega, by omega⟩
theorem hv_ok {l : List Int} {pc ha st ca : Int} {hd : Bool} (h1 : l.length = 32) (h2 : ∀ n ∈ l, fit4 n) (h3 : fit4 pc) (h4 : fit4 ha) : (⟨l, pc, hd, ha, st, ca⟩ : Hv).Ok := by
  refine ⟨h1, fun j => ?_, h3.1, h3.2, h4.1, h4.2⟩
  unfold rg
  rw [List.getD_eq_getElem?_getD]
  cases h : l[j]? with
  | none => simp
  | some x => exact h2 x (List.mem_of_getElem? h)
theorem rdH_ok (b : List UInt8) (fr : Nat) : (rdH b fr).Ok := hv_ok (ptF_len _ (Nat.le_refl _)) (ptF_mem (rdR_u4 b fr)) (rdR_u4 _ _ _) (rdR_u4 _ _ _)
theorem rdL_ok (b : List UInt8) (fr : Nat) : ∀ i, ∀ h ∈ rdL b fr i, h.Ok
  | 0, n, h => by simp [rdL] at h
  | i + 1, n, h => by
    simp only [rdL, List.mem_append, List.mem_singleton] at h
    rcases h with h | rfl
    · exact rdL_ok b fr i n h
    · exact rdH_ok _ _
theorem ptF_set (f : Nat → Int) {i : Nat} (hi : i < 32) : (ptF f i).set i (f i) = ptF f (i + 1) := by
  unfold ptF
  rw [List.set_append_right _ _ (by simp), List.length_map, List.length_range, Nat.sub_self, show 32 - i = (32 - (i + 1)) + 1 by omega, List.replicate_succ, List.set_cons_zero, List.range_succ]
  simp
/-- What the document asks of bytes. -/
structure Cd (b : List UInt8) (mn hn : Nat) : Prop where
  l1 : 4 ≤ b.length
  e1 : raw b 0 4 = mn
  m1 : mn ≤ 4096
  l2 : 8 + mn ≤ b.length
  e2 : raw b (4 + mn) 4 = hn
  h1 : 1 ≤ hn
  h4 : hn ≤ 4
  l3 : b.length = 8 + mn + 148 * hn
def rdM (b : List UInt8) (mn : Nat) : List UInt8 := (b.drop 4).take mn
/-- A machine's bytes are just so read. -/
theorem is_cd {b m : List UInt8} {hs : List Hv} (h : Is b m hs) : Cd b m.length hs.length ∧ rdM b m.length = m ∧ rdL b (8 + m.length) hs.length = hs := by
  obtain ⟨k1, k2, k3, k4⟩ := mayM_of h.may
  have l := mB_len (m := m) h.ok
  have eb := h.eq
  rw [eb] at l
  have q1 : raw b 0 4 = m.length := by rw [← eb]; unfold mB; rw [raw_app_lt _ _ _ _ (by rw [n4_len]; omega), raw_n4 ⟨by omega, by omega⟩]
  have q2 : raw b (4 + m.length) 4 = hs.length := by
    rw [← eb]; unfold mB
    rw [← List.append_assoc, show 4 + m.length = (n4 m.length ++ m).length + 0 by simp [n4_len], raw_app, raw_app_lt _ _ _ _ (by rw [n4_len]; omega), raw_n4 ⟨by omega, by omega⟩]
  refine ⟨⟨by omega, q1, k1, by omega, q2, k2, k3, by omega⟩, ?_, ?_⟩
  · unfold rdM
    rw [← eb]
    unfold mB
    rw [show (4 : Nat) = (n4 (m.length : Int)).length from rfl, List.drop_left, List.take_left]
  · -- hart by hart
    have hh : ∀ i h', hs[i]? = some h' → rdH b (8 + m.length + 148 * i) = h' := by
      intro i h' hi
      have hl : i < hs.length := (List.getElem?_eq_some_iff.1 hi).1
      have o := h.ok h' (List.mem_of_getElem? hi)
      have u := hN_u4 o (k4 h' (List.mem_of_getElem? hi))
      have e : hs = hs.take i ++ (h' :: hs.drop (i + 1)) := by
        obtain ⟨a1, a2⟩ := List.getElem?_eq_some_iff.1 hi
        rw [← a2, List.getElem_cons_drop, List.take_append_drop]
      have lt : (hsB (hs.take i)).length = 148 * i := by rw [hsB_len (fun q hq => h.ok q (List.mem_of_mem_take hq)), List.length_take]; omega
      have eb2 : b = (n4 (m.length : Int) ++ m ++ n4 (hs.length : Int) ++ hsB (hs.take i)) ++ (hB h' ++ hsB (hs.drop (i + 1))) := by
        rw [← eb]; unfold mB
        have e3 : hsB hs = hsB (hs.take i) ++ (hB h' ++ hsB (hs.drop (i + 1))) := by
          rw [show hsB hs = hsB (hs.take i ++ (h' :: hs.drop (i + 1))) by rw [← e]]
          simp [hsB]
        rw [e3]
        simp only [List.append_assoc]
      have lp : (n4 (m.length : Int) ++ m ++ n4 (hs.length : Int) ++ hsB (hs.take i)).length = 8 + m.length + 148 * i := by
        simp only [List.length_append, n4_len, lt]; omega
      have rk : ∀ k x, (hN h')[k]? = some x → rdR b (8 + m.length + 148 * i) k = x := by
        intro k x hx
        unfold rdR
        rw [eb2, ← lp, raw_app]
        exact raw_nB u _ hx
      have ln := o.len
      have rgk : ∀ k, k < 32 → rdR b (8 + m.length + 148 * i) k = rg h' k := fun k hk => rk k _ (by
        unfold hN rg
        rw [List.getElem?_append_left (by omega), List.getElem?_eq_getElem (by omega), List.getD_eq_getElem?_getD, List.getElem?_eq_getElem (by omega)]
        rfl)
      have fld : ∀ j, (hN h')[32 + j]? = [h'.pc, bi h'.held, h'.heldAt, h'.state, h'.cause][j]? := fun j => by
        unfold hN
        rw [List.getElem?_append_right (by omega), ln, Nat.add_sub_cancel_left]
      unfold rdH
      rw [rk 32 _ (fld 0), rk 33 _ (fld 1), rk 34 _ (fld 2), rk 35 _ (fld 3), rk 36 _ (fld 4)]
      have er : ptF (rdR b (8 + m.length + 148 * i)) 32 = h'.regs := by
        unfold ptF
        simp only [Nat.sub_self, List.replicate_zero, List.append_nil]
        apply List.ext_getElem?
        intro k
        by_cases hk : k < 32
        · rw [List.getElem?_map, List.getElem?_range hk]
          simp only [Option.map_some]
          rw [rgk k hk]
          unfold rg
          rw [List.getD_eq_getElem?_getD, List.getElem?_eq_getElem (by omega)]
          rfl
        · rw [List.getElem?_eq_none (by simp; omega), List.getElem?_eq_none (by omega)]
      rw [er]
      have eh : (bi h'.held == 1) = h'.held := bi_back _
      rw [eh]
    have hall : ∀ i, i ≤ hs.length → rdL b (8 + m.length) i = hs.take i := by
      intro i
      induction i with
      | zero => intro _; rfl
      | succ i ih =>
        intro hi
        show rdL b _ i ++ [_] = _
        rw [ih (by omega), hh i hs[i] (List.getElem?_eq_getElem (by omega)), take_one (by omega)]
    rw [hall _ (Nat.le_refl _), List.take_length]
theorem got_iff {b : List UInt8} {mn hn : Nat} (C : Cd b mn hn) : gotB b = (mayM (rdM b mn).length (rdL b (8 + mn) hn) && decide (mB (rdM b mn) (rdL b (8 + mn) hn) = b)) := by
  cases hg : gotB b with
  | true =>
    have hi := got_is hg
    obtain ⟨D, e1, e2⟩ := is_cd hi
    have a1 : mn = (mrM ⟨b, false⟩).length := by have := C.e1; have := D.e1; omega
    have a2 : hn = (mrH ⟨b, false⟩).length := by have := C.e2; have := D.e2; rw [← a1] at this; omega
    rw [a1, a2, e1, e2, hi.may, hi.eq]
    simp
  | false =>
    symm
    by_cases hm : mayM (rdM b mn).length (rdL b (8 + mn) hn) = true
    · rw [hm]
      by_cases he : mB (rdM b mn) (rdL b (8 + mn) hn) = b
      · have := (is_got ⟨hm, rdL_ok _ _ _, he⟩).1
        rw [hg] at this
        cases this
      · simp [he]
    · rw [Bool.not_eq_true] at hm
      rw [hm]; rfl
theorem got_cd {b : List UInt8} (h : gotB b = true) : ∃ mn hn, Cd b mn hn := ⟨_, _, (is_cd (got_is h)).1⟩
theorem got_m {b : List UInt8} {mn hn : Nat} (C : Cd b mn hn) (hg : gotB b = true) : mrM ⟨b, false⟩ = rdM b mn ∧ mrH ⟨b, false⟩ = rdL b (8 + mn) hn := by
  have hi := got_is hg
  obtain ⟨D, e1, e2⟩ := is_cd hi
  have a1 : mn = (mrM ⟨b, false⟩).length := by have := C.e1; have := D.e1; omega
  have a2 : hn = (mrH ⟨b, false⟩).length := by have := C.e2; have := D.e2; rw [← a1] at this; omega
  rw [a1, a2, e1, e2]
  exact ⟨rfl, rfl⟩
end Go.Proofs.Ythgnfmbnbndeeac.Im
/-
  What the methods of package hart's core that store do: Store, Call.
-/
namespace Go.Proofs.Ythgnfmbnbndeeac.Hc
open Go.ChangeShapes Go.WideShapes Go.ChangeAt Go.RowKit Mm Hh
set_option linter.unusedVariables false
set_option linter.unusedSimpArgs false

variable {a op : Int} {w w' W : World} {base g n b : Nat} {h : Hv} {l : List UInt8} {os : List Int} {ss : List (Int × Int)} {x v : Value} {xs : List Value}
/-- append to a slice of the program's own, as one step of a region that draws its order. -/
theorem step_append_own {P : Program} {ops : Array Oper} {o : Oper} {a : Act} {K : Act → World → Prop} {Q : Exit → Act → World → Prop} {E : Prop}
    (hg : o.guard = none) (s x : Operand) (t : TypeId) (hop : o.op = Op.call { callee := Callee.builtin Builtin.append, args := #[s, x], argTypes := #[t, t] })
    (base : Nat) (e : TypeId) (i : TypeInfo) (z : Value) (size bytes : Nat) (h1 : P.underlying t = some (.slice e)) (h2 : P.info? e = some i) (h3 : i.zero = some z) (h4 : i.size = size) (h5 : i.bytes = bytes) (h6 : z.cells.size = size) (h7 : 0 < size)
    (v : Value) (n : Nat) (olds : List Value) (hs : a.eval s = v) (hown : w.ownsRow base e size v n olds)
    (ad : Addr) (m c : Nat) (news : List Value) (hx : a.eval x = .slice (some ad) m c) (hn : news.length = m * size) (hc : ∀ j u, news[j]? = some u → w.cell? (ad.add j) = some u) (h1c : ∀ u ∈ news, u.oneCell' = true)
    (b1 : n + m ≤ maxLen) (b2 : (n + m) * bytes ≤ 140737488355328) (hbase : base ≤ w.heap.size)
    (hK : ∀ v' w', w'.ownsRow base e size v' (n + m) (olds ++ news) → w.grownBy w' v.ownBlock → K (a.put o.dst v') w') :
    if Region.wanted o (yielded ops a.tmps) = true then Oper.wp P o a w K Q else E := by
  have hw : Region.wanted o (yielded ops a.tmps) = true := by simp [Region.wanted, hg]
  rw [if_pos hw]
  obtain ⟨v', w', hrun, r1, r2, _⟩ := run_append_own (P := P) w base t o.type e i z size bytes h1 h2 h3 h4 h5 h6 h7 v n olds hown ad m c news hn hc h1c b1 b2 hbase
  unfold Oper.wp
  simp [execOp, hop, resolve, invoke, builtin, hs, hx, hrun, Result.andThen]
  exact hK v' w' r1 r2

theorem infoU : (Try.prog.info? 45).map (fun i => (i.zero, i.size, i.bytes)) = some (some (.int .u32 0), 1, 4) := by kernel_rfl

theorem stL_len {x : Int} (ok : stOk l op a = true) : (stL l op a x).length = l.length := by unfold stL; rw [ok]; exact len_put _ _ _ _
theorem stOk_op (ok : stOk l op a = true) : op = 16 ∨ op = 17 ∨ op = 18 := by
  have h : ¬ ssz op = 0 := by
    intro h
    simp [stOk, thr, h] at ok
  unfold ssz at h
  repeat' split at h
  all_goals omega
theorem Gr.drew {a : World} (h : Gr a w) : Gr a w.drew := h.drewN 1

theorem owns_gr {e sz : Nat} (h : w.ownsRow base e sz v n xs) (q : Gr w w') : w'.ownsRow base e sz v n xs :=
  owns_to h fun k o f hk => q.block k (gs hk).1
theorem own_form {size : Nat} {e : TypeId} (h : w.ownsRow base e size v n xs) (hn : 0 < n) : ∃ g cap, v = .slice (some ⟨g, 0, none⟩) n cap := by
  rcases h.2 with ⟨_, h0⟩ | ⟨g, cap, _, hv, _⟩
  · omega
  · exact ⟨g, cap, hv⟩
theorem two_cells {y : Value} (h0 : W.cell? ⟨b, 0, none⟩ = some x) (h1 : W.cell? ⟨b, 1, none⟩ = some y) : ∀ j u, ([x, y] : List Value)[j]? = some u → W.cell? ((⟨b, 0, none⟩ : Addr).add j) = some u := by
  intro j u hj
  rw [add_at]
  match j, hj with
  | 0, hj => simp at hj; subst hj; exact h0
  | 1, hj => simp at hj; subst hj; exact h1
theorem two_one (a b : Int) : ∀ u ∈ [Value.int .u32 a, Value.int .u32 b], u.oneCell' = true := by
  intro u hu
  simp at hu
  rcases hu with rfl | rfl <;> rfl
theorem one_cell (h0 : W.cell? ⟨b, 0, none⟩ = some x) : ∀ j u, ([x] : List Value)[j]? = some u → W.cell? ((⟨b, 0, none⟩ : Addr).add j) = some u := by
  intro j u hj
  rw [add_at]
  match j, hj with
  | 0, hj => simp at hj; subst hj; exact h0
theorem one_one (a : Int) : ∀ u ∈ [Value.int .u32 a], u.oneCell' = true := by
  intro u hu
  simp at hu
  subst hu
  rfl
end Go.Proofs.Ythgnfmbnbndeeac.Hc
/-
  What the functions of package ferrybridgeref1 return, each for every two words: Alu returns 'Wd.alu', Holds 'Wd.holds', Amo 'Wd.amo', and nothing in memory turns. Conditions: the words are from 0 to 2^32 - 1.
-/
namespace Go.Proofs.Ythgnfmbnbndeeac.Rw
open Go.ChangeShapes Go.WideShapes Go.ChangeAt Go.RowKit
set_option linter.unusedVariables false

theorem ret_int {k : IntKind} {a b : Int} (h : a = b) : Ending.returned (.int k a) = .returned (.int k b) := by rw [h]
theorem ret_bool {a b : Bool} (h : a = b) : Ending.returned (.bool a) = .returned (.bool b) := by rw [h]

theorem Signed_any (a : Int) (w : World) (ha : 0 ≤ a) (ha' : a < 4294967296) :
    Calls Try.prog 61 #[.int .u32 a] w fun e w' => e = .returned (.int .i64 (Wd.sg a)) ∧ w' = w := by
  by_cases h : a < 2147483648
  · have H : Hid (Wd.sg a = a) := (if_pos h : Wd.sg a = a)
    go_enter Try.func61, Try.ntmps61
    go_wp2
    go_ret
    exact ⟨ret_int H.out.symm, rfl⟩
  · have H : Hid (Wd.sg a = a - 4294967296) := (if_neg h : Wd.sg a = _)
    go_enter Try.func61, Try.ntmps61
    go_wp2
    go_ret
    exact ⟨ret_int H.out.symm, rfl⟩

theorem of_neg (n r : Int) (e : n.tmod 4294967296 = r) (h : r < 0) : r + 4294967296 = Wd.lo n ∧ -4294967296 < r := by
  unfold Wd.lo
  have h1 := Int.tmod_eq_emod (a := n) (b := 4294967296)
  split at h1 <;> omega
theorem of_pos (n r : Int) (e : n.tmod 4294967296 = r) (h : ¬ r < 0) : r = Wd.lo n := by
  unfold Wd.lo
  have h1 := Int.tmod_eq_emod (a := n) (b := 4294967296)
  split at h1 <;> omega
theorem Of_any (n : Int) (w : World) (hn : -9223372036854775808 ≤ n) (hn' : n ≤ 9223372036854775807) :
    Calls Try.prog 47 #[.int .i64 n] w fun e w' => e = .returned (.int .u32 (Wd.lo n)) ∧ w' = w := by
  obtain ⟨l0, l1⟩ := Wd.lo_bd n
  by_cases h : n.tmod 4294967296 < 0
  · have e := of_neg n _ rfl h
    have H : Hid _ := e.1
    have e2 := e.2
    clear e
    go_enter Try.func47, Try.ntmps47
    go_wp2
    go_ret
    exact ⟨ret_int H.out, rfl⟩
  · have H : Hid (n.tmod 4294967296 = Wd.lo n) := of_pos n _ rfl h
    go_enter Try.func47, Try.ntmps47
    go_wp2
    go_ret
    exact ⟨ret_int (by have := H.out; omega), rfl⟩

theorem Power_any (n : Nat) (w : World) (hn : n ≤ 32) :
    Calls Try.prog 65 #[.int .i64 n] w fun e w' => e = .returned (.int .i64 ((2 ^ n : Nat) : Int)) ∧ w' = w := by
  go_enter Try.func65, Try.ntmps65
  go_wp2
  go_loop [3, 4] (fun p i => ∃ k : Nat, k ≤ n ∧ i = .int .i64 k ∧ p = .int .i64 ((2 ^ k : Nat) : Int)) (fun _ i => n - (intOf i).toNat)
  case atStart => exact ⟨0, Nat.zero_le _, rfl, rfl⟩
  case round =>
    obtain ⟨k, hk, rfl, rfl⟩ := hrel
    by_cases hlt : k < n
    · have h2 : 2 ^ k ≤ 2 ^ 32 := Nat.pow_le_pow_right (by omega) (by omega)
      have HS : Hid (2 ^ (k + 1) = 2 ^ k + 2 ^ k) := (by rw [Nat.pow_succ]; omega : 2 ^ (k + 1) = _)
      generalize 2 ^ k = P at *
      go_wp2
      go_round
      case rel => exact ⟨k + 1, by omega, by go_num, by rw [HS.out]; go_num⟩
      case measure => simp [intOf]; omega
    · obtain rfl : k = n := by omega
      go_wp2
      go_ret
      exact ⟨rfl, rfl⟩

theorem floor_neg (a b r : Int) (hb : 0 < b) (e : a.tmod b = r) (h : r < 0) : (a - (r + b)).tdiv b = a / b := by
  have h1 := Int.tmod_eq_emod (a := a) (b := b)
  have h2 := Int.emod_lt_of_pos a hb
  have h3 := Int.emod_nonneg a (Int.ne_of_gt hb)
  have h4 : r + b = a % b := by
    split at h1
    · omega
    · have : (b.natAbs : Int) = b := Int.natAbs_of_nonneg (Int.le_of_lt hb)
      omega
  rw [h4]
  have h5 : a - a % b = b * (a / b) := by have := Int.mul_ediv_add_emod a b; omega
  rw [h5, Int.mul_tdiv_cancel_left _ (Int.ne_of_gt hb)]
theorem floor_pos (a b r : Int) (hb : 0 < b) (e : a.tmod b = r) (h : ¬ r < 0) : (a - r).tdiv b = a / b := by
  have h1 := Int.tmod_eq_emod (a := a) (b := b)
  have h2 := Int.emod_lt_of_pos a hb
  have h4 : r = a % b := by
    split at h1
    · omega
    · have : (b.natAbs : Int) = b := Int.natAbs_of_nonneg (Int.le_of_lt hb)
      omega
  rw [h4]
  have h5 : a - a % b = b * (a / b) := by have := Int.mul_ediv_add_emod a b; omega
  rw [h5, Int.mul_tdiv_cancel_left _ (Int.ne_of_gt hb)]
theorem floor_any (a b : Int) (w : World) (hb : 0 < b) (hb' : b ≤ 4294967296) (ha : -9223372000000000000 ≤ a) (ha' : a ≤ 9223372000000000000) :
    Calls Try.prog 66 #[.int .i64 a, .int .i64 b] w fun e w' => e = .returned (.int .i64 (a / b)) ∧ w' = w := by
  have r1 : a.tmod b < b := Int.tmod_lt_of_pos a hb
  have r2 : -b < a.tmod b := by
    have := Int.lt_tmod_of_pos a hb
    omega
  by_cases h : a.tmod b < 0
  · have H : Hid ((a - (a.tmod b + b)).tdiv b = a / b) := floor_neg a b _ hb rfl h
    go_enter Try.func66, Try.ntmps66
    go_wp2
    go_ret
    exact ⟨ret_int H.out, rfl⟩
  · have H : Hid ((a - a.tmod b).tdiv b = a / b) := floor_pos a b _ hb rfl h
    go_enter Try.func66, Try.ntmps66
    go_wp2
    go_ret
    exact ⟨ret_int H.out, rfl⟩

theorem truth_any (b : Bool) (w : World) :
    Calls Try.prog 67 #[.bool b] w fun e w' => e = .returned (.int .u32 (Wd.tr b)) ∧ w' = w := by
  cases b
  all_goals
    go_enter Try.func67, Try.ntmps67
    go_wp2
    go_ret
    exact ⟨rfl, rfl⟩

theorem upper_hi (a b : Int) : Wd.lo ((a * (b / 65536) + a * (b % 65536) / 65536) / 65536) = Wd.hi (a * b) := by
  unfold Wd.lo Wd.hi
  have e : a * b = a * (b % 65536) + 65536 * (a * (b / 65536)) := by
    have h := Int.mul_ediv_add_emod b 65536
    calc a * b = a * (65536 * (b / 65536) + b % 65536) := by rw [h]
      _ = a * (65536 * (b / 65536)) + a * (b % 65536) := by rw [Int.mul_add]
      _ = a * (b % 65536) + 65536 * (a * (b / 65536)) := by rw [Int.add_comm, Int.mul_left_comm]
  have e2 : a * b / 65536 = a * (b / 65536) + a * (b % 65536) / 65536 := by
    rw [e, Int.add_mul_ediv_left _ _ (by decide), Int.add_comm]
  rw [← e2, Int.ediv_ediv_of_nonneg (by decide)]
  rfl
theorem upper_bd {x y z : Int} (hx : -2147483648 ≤ x) (hx' : x < 4294967296) (hy : 0 ≤ y) (hy' : y < 65536) : -140737488355328 ≤ x * y ∧ x * y ≤ 281474976710656 := by
  by_cases h : 0 ≤ x
  · have a1 : x * y ≤ x * 65536 := Int.mul_le_mul_of_nonneg_left (by omega) h
    have a2 : 0 ≤ x * y := Int.mul_nonneg h hy
    omega
  · have a1 : x * y ≤ 0 := Int.mul_nonpos_of_nonpos_of_nonneg (by omega) hy
    have a2 : x * 65536 ≤ x * y := Int.mul_le_mul_of_nonpos_left (by omega) (by omega)
    omega
theorem upper_any (a b : Int) (w : World) (ha : -2147483648 ≤ a) (ha' : a < 4294967296) (hb : 0 ≤ b) (hb' : b < 4294967296) :
    Calls Try.prog 68 #[.int .i64 a, .int .i64 b] w fun e w' => e = .returned (.int .u32 (Wd.hi (a * b))) ∧ w' = w := by
  have b1 := @upper_bd a (b / 65536) 0 ha ha' (by omega) (by omega)
  have b2 := @upper_bd a (b % 65536) 0 ha ha' (by omega) (by omega)
  have H : Hid _ := upper_hi a b
  go_enter Try.func68, Try.ntmps68
  go_wp2_with (first | (go_at_call 66; refine (floor_any _ _ _ (by omega) (by omega) (by omega) (by omega)).mono ?_; rintro e w' ⟨rfl, rfl⟩) | (go_at_call 47; refine (Of_any _ _ (by omega) (by omega)).mono ?_; rintro e w' ⟨rfl, rfl⟩))
  go_ret
  exact ⟨ret_int H.out, rfl⟩

/-! ### Bit by bit -/
theorem bit_step (F k : Nat) : F % 2 ^ (k + 1) = F % 2 ^ k + if F / 2 ^ k % 2 = 1 then 2 ^ k else 0 := by
  rw [Nat.mod_pow_succ]
  by_cases h : F / 2 ^ k % 2 = 1
  · rw [h, if_pos rfl, Nat.mul_one]
  · rw [if_neg h, show F / 2 ^ k % 2 = 0 by omega, Nat.mul_zero]
theorem bit_half (A k : Nat) : A / 2 ^ (k + 1) = A / 2 ^ k / 2 := by
  rw [Nat.pow_succ, Nat.div_div_eq_div_mul]
theorem bit_tb (F k : Nat) : F / 2 ^ k % 2 = if F.testBit k then 1 else 0 := by
  rw [Nat.testBit_eq_decide_div_mod_eq]
  by_cases h : F / 2 ^ k % 2 = 1 <;> simp [h] <;> omega
theorem bit_and (A B k : Nat) : (A &&& B) / 2 ^ k % 2 = if A / 2 ^ k % 2 = 1 ∧ B / 2 ^ k % 2 = 1 then 1 else 0 := by
  simp only [bit_tb, Nat.testBit_and]; cases A.testBit k <;> cases B.testBit k <;> rfl
theorem bit_or (A B k : Nat) : (A ||| B) / 2 ^ k % 2 = if A / 2 ^ k % 2 = 1 ∨ B / 2 ^ k % 2 = 1 then 1 else 0 := by
  simp only [bit_tb, Nat.testBit_or]; cases A.testBit k <;> cases B.testBit k <;> rfl
theorem bit_xor (A B k : Nat) : (A ^^^ B) / 2 ^ k % 2 = if ¬ (A / 2 ^ k % 2 = 1 ↔ B / 2 ^ k % 2 = 1) then 1 else 0 := by
  simp only [bit_tb, Nat.testBit_xor]; cases A.testBit k <;> cases B.testBit k <;> rfl

theorem bits_and (A B : Nat) (w : World) (ha : A < 4294967296) (hb : B < 4294967296) :
    Calls Try.prog 64 #[.int .i64 37, .int .u32 A, .int .u32 B] w fun e w' => e = .returned (.int .u32 ((A &&& B : Nat) : Int)) ∧ w' = w := by
  have hF : A &&& B < 2 ^ 32 := Nat.and_lt_two_pow _ (by omega)
  go_enter Try.func64, Try.ntmps64
  go_wp2
  go_loop [7, 8, 9, 10] (fun x y n i => ∃ k : Nat, k ≤ 32 ∧ i = .int .i64 k ∧ x = .int .i64 ((A / 2 ^ k : Nat) : Int) ∧ y = .int .i64 ((B / 2 ^ k : Nat) : Int) ∧ n = .int .i64 (((A &&& B) % 2 ^ k : Nat) : Int)) (fun _ _ _ i => 32 - (intOf i).toNat)
  case atStart => exact ⟨0, by omega, rfl, by simp, by simp, by simp [Nat.mod_one]⟩
  case round =>
    obtain ⟨k, hk, rfl, rfl, rfl, rfl⟩ := hrel
    by_cases hlt : k < 32
    · have hs : Hid _ := bit_step (A &&& B) k
      have hA : Hid _ := bit_half A k
      have hB : Hid _ := bit_half B k
      have hb1 : Hid _ := bit_and A B k
      have h2 : 2 ^ k ≤ 2 ^ 31 := Nat.pow_le_pow_right (by omega) (by omega)
      have hm : (A &&& B) % 2 ^ k < 2 ^ k := Nat.mod_lt _ (Nat.two_pow_pos k)
      have hAx : A / 2 ^ k ≤ A := Nat.div_le_self _ _
      have hBx : B / 2 ^ k ≤ B := Nat.div_le_self _ _
      have hPw : Hid (∀ w : World, _) := fun w => Power_any k w hk
      generalize A / 2 ^ k = X at *
      generalize B / 2 ^ k = Y at *
      by_cases hp : X % 2 = 1
      · by_cases hq : Y % 2 = 1
        · have hn : Hid ((A &&& B) % 2 ^ (k + 1) = (A &&& B) % 2 ^ k + 2 ^ k) := by have h1 := hs.out; rw [hb1.out] at h1; show _ = _; simpa [hp, hq] using h1
          clear hs hb1
          generalize (A &&& B) % 2 ^ k = M at *
          generalize 2 ^ k = P at *
          have tx : ((X : Int) % 2 == 1) = true := beq_iff_eq.2 (by omega)
          have ty : ((Y : Int) % 2 == 1) = true := beq_iff_eq.2 (by omega)
          go_wp2_with (go_at_call 65; refine (hPw.out _).mono ?_; rintro e w' ⟨rfl, rfl⟩)
          go_round
          case rel => exact ⟨k + 1, by omega, by go_num, by rw [hA.out]; go_num, by rw [hB.out]; go_num, by rw [hn.out]; go_num⟩
          case measure => simp [intOf]; omega
        · have hn : Hid ((A &&& B) % 2 ^ (k + 1) = (A &&& B) % 2 ^ k) := by have h1 := hs.out; rw [hb1.out] at h1; show _ = _; simpa [hp, hq] using h1
          clear hs hb1
          generalize (A &&& B) % 2 ^ k = M at *
          generalize 2 ^ k = P at *
          have tx : ((X : Int) % 2 == 1) = true := beq_iff_eq.2 (by omega)
          have ty : ((Y : Int) % 2 == 1) = false := beq_eq_false_iff_ne.2 (by omega)
          go_wp2
          go_round
          case rel => exact ⟨k + 1, by omega, by go_num, by rw [hA.out]; go_num, by rw [hB.out]; go_num, by rw [hn.out]⟩
          case measure => simp [intOf]; omega
      · by_cases hq : Y % 2 = 1
        · have hn : Hid ((A &&& B) % 2 ^ (k + 1) = (A &&& B) % 2 ^ k) := by have h1 := hs.out; rw [hb1.out] at h1; show _ = _; simpa [hp, hq] using h1
          clear hs hb1
          generalize (A &&& B) % 2 ^ k = M at *
          generalize 2 ^ k = P at *
          have tx : ((X : Int) % 2 == 1) = false := beq_eq_false_iff_ne.2 (by omega)
          have ty : ((Y : Int) % 2 == 1) = true := beq_iff_eq.2 (by omega)
          go_wp2
          go_round
          case rel => exact ⟨k + 1, by omega, by go_num, by rw [hA.out]; go_num, by rw [hB.out]; go_num, by rw [hn.out]⟩
          case measure => simp [intOf]; omega
        · have hn : Hid ((A &&& B) % 2 ^ (k + 1) = (A &&& B) % 2 ^ k) := by have h1 := hs.out; rw [hb1.out] at h1; show _ = _; simpa [hp, hq] using h1
          clear hs hb1
          generalize (A &&& B) % 2 ^ k = M at *
          generalize 2 ^ k = P at *
          have tx : ((X : Int) % 2 == 1) = false := beq_eq_false_iff_ne.2 (by omega)
          have ty : ((Y : Int) % 2 == 1) = false := beq_eq_false_iff_ne.2 (by omega)
          go_wp2
          go_round
          case rel => exact ⟨k + 1, by omega, by go_num, by rw [hA.out]; go_num, by rw [hB.out]; go_num, by rw [hn.out]⟩
          case measure => simp [intOf]; omega
    · obtain rfl : k = 32 := by omega
      go_wp2_with (go_at_call 47; refine (Of_any _ _ (by omega) (by omega)).mono ?_; rintro e w' ⟨rfl, rfl⟩)
      go_ret
      exact ⟨ret_int (by unfold Wd.lo; omega), rfl⟩

theorem bits_or (A B : Nat) (w : World) (ha : A < 4294967296) (hb : B < 4294967296) :
    Calls Try.prog 64 #[.int .i64 36, .int .u32 A, .int .u32 B] w fun e w' => e = .returned (.int .u32 ((A ||| B : Nat) : Int)) ∧ w' = w := by
  have hF : A ||| B < 2 ^ 32 := Nat.or_lt_two_pow (by omega) (by omega)
  go_enter Try.func64, Try.ntmps64
  go_wp2
  go_loop [7, 8, 9, 10] (fun x y n i => ∃ k : Nat, k ≤ 32 ∧ i = .int .i64 k ∧ x = .int .i64 ((A / 2 ^ k : Nat) : Int) ∧ y = .int .i64 ((B / 2 ^ k : Nat) : Int) ∧ n = .int .i64 (((A ||| B) % 2 ^ k : Nat) : Int)) (fun _ _ _ i => 32 - (intOf i).toNat)
  case atStart => exact ⟨0, by omega, rfl, by simp, by simp, by simp [Nat.mod_one]⟩
  case round =>
    obtain ⟨k, hk, rfl, rfl, rfl, rfl⟩ := hrel
    by_cases hlt : k < 32
    · have hs : Hid _ := bit_step (A ||| B) k
      have hA : Hid _ := bit_half A k
      have hB : Hid _ := bit_half B k
      have hb1 : Hid _ := bit_or A B k
      have h2 : 2 ^ k ≤ 2 ^ 31 := Nat.pow_le_pow_right (by omega) (by omega)
      have hm : (A ||| B) % 2 ^ k < 2 ^ k := Nat.mod_lt _ (Nat.two_pow_pos k)
      have hAx : A / 2 ^ k ≤ A := Nat.div_le_self _ _
      have hBx : B / 2 ^ k ≤ B := Nat.div_le_self _ _
      have hPw : Hid (∀ w : World, _) := fun w => Power_any k w hk
      generalize A / 2 ^ k = X at *
      generalize B / 2 ^ k = Y at *
      by_cases hp : X % 2 = 1
      · by_cases hq : Y % 2 = 1
        · have hn : Hid ((A ||| B) % 2 ^ (k + 1) = (A ||| B) % 2 ^ k + 2 ^ k) := by have h1 := hs.out; rw [hb1.out] at h1; show _ = _; simpa [hp, hq] using h1
          clear hs hb1
          generalize (A ||| B) % 2 ^ k = M at *
          generalize 2 ^ k = P at *
          have tx : ((X : Int) % 2 == 1) = true := beq_iff_eq.2 (by omega)
          have ty : ((Y : Int) % 2 == 1) = true := beq_iff_eq.2 (by omega)
          go_wp2_with (go_at_call 65; refine (hPw.out _).mono ?_; rintro e w' ⟨rfl, rfl⟩)
          go_round
          case rel => exact ⟨k + 1, by omega, by go_num, by rw [hA.out]; go_num, by rw [hB.out]; go_num, by rw [hn.out]; go_num⟩
          case measure => simp [intOf]; omega
        · have hn : Hid ((A ||| B) % 2 ^ (k + 1) = (A ||| B) % 2 ^ k + 2 ^ k) := by have h1 := hs.out; rw [hb1.out] at h1; show _ = _; simpa [hp, hq] using h1
          clear hs hb1
          generalize (A ||| B) % 2 ^ k = M at *
          generalize 2 ^ k = P at *
          have tx : ((X : Int) % 2 == 1) = true := beq_iff_eq.2 (by omega)
          have ty : ((Y : Int) % 2 == 1) = false := beq_eq_false_iff_ne.2 (by omega)
          go_wp2_with (go_at_call 65; refine (hPw.out _).mono ?_; rintro e w' ⟨rfl, rfl⟩)
          go_round
          case rel => exact ⟨k + 1, by omega, by go_num, by rw [hA.out]; go_num, by rw [hB.out]; go_num, by rw [hn.out]; go_num⟩
          case measure => simp [intOf]; omega
      · by_cases hq : Y % 2 = 1
        · have hn : Hid ((A ||| B) % 2 ^ (k + 1) = (A ||| B) % 2 ^ k + 2 ^ k) := by have h1 := hs.out; rw [hb1.out] at h1; show _ = _; simpa [hp, hq] using h1
          clear hs hb1
          generalize (A ||| B) % 2 ^ k = M at *
          generalize 2 ^ k = P at *
          have tx : ((X : Int) % 2 == 1) = false := beq_eq_false_iff_ne.2 (by omega)
          have ty : ((Y : Int) % 2 == 1) = true := beq_iff_eq.2 (by omega)
          go_wp2_with (go_at_call 65; refine (hPw.out _).mono ?_; rintro e w' ⟨rfl, rfl⟩)
          go_round
          case rel => exact ⟨k + 1, by omega, by go_num, by rw [hA.out]; go_num, by rw [hB.out]; go_num, by rw [hn.out]; go_num⟩
          case measure => simp [intOf]; omega
        · have hn : Hid ((A ||| B) % 2 ^ (k + 1) = (A ||| B) % 2 ^ k) := by have h1 := hs.out; rw [hb1.out] at h1; show _ = _; simpa [hp, hq] using h1
          clear hs hb1
          generalize (A ||| B) % 2 ^ k = M at *
          generalize 2 ^ k = P at *
          have tx : ((X : Int) % 2 == 1) = false := beq_eq_false_iff_ne.2 (by omega)
          have ty : ((Y : Int) % 2 == 1) = false := beq_eq_false_iff_ne.2 (by omega)
          go_wp2
          go_round
          case rel => exact ⟨k + 1, by omega, by go_num, by rw [hA.out]; go_num, by rw [hB.out]; go_num, by rw [hn.out]⟩
          case measure => simp [intOf]; omega
    · obtain rfl : k = 32 := by omega
      go_wp2_with (go_at_call 47; refine (Of_any _ _ (by omega) (by omega)).mono ?_; rintro e w' ⟨rfl, rfl⟩)
      go_ret
      exact ⟨ret_int (by unfold Wd.lo; omega), rfl⟩

theorem bits_xor (A B : Nat) (w : World) (ha : A < 4294967296) (hb : B < 4294967296) :
    Calls Try.prog 64 #[.int .i64 33, .int .u32 A, .int .u32 B] w fun e w' => e = .returned (.int .u32 ((A ^^^ B : Nat) : Int)) ∧ w' = w := by
  have hF : A ^^^ B < 2 ^ 32 := Nat.xor_lt_two_pow (by omega) (by omega)
  go_enter Try.func64, Try.ntmps64
  go_wp2
  go_loop [7, 8, 9, 10] (fun x y n i => ∃ k : Nat, k ≤ 32 ∧ i = .int .i64 k ∧ x = .int .i64 ((A / 2 ^ k : Nat) : Int) ∧ y = .int .i64 ((B / 2 ^ k : Nat) : Int) ∧ n = .int .i64 (((A ^^^ B) % 2 ^ k : Nat) : Int)) (fun _ _ _ i => 32 - (intOf i).toNat)
  case atStart => exact ⟨0, by omega, rfl, by simp, by simp, by simp [Nat.mod_one]⟩
  case round =>
    obtain ⟨k, hk, rfl, rfl, rfl, rfl⟩ := hrel
    by_cases hlt : k < 32
    · have hs : Hid _ := bit_step (A ^^^ B) k
      have hA : Hid _ := bit_half A k
      have hB : Hid _ := bit_half B k
      have hb1 : Hid _ := bit_xor A B k
      have h2 : 2 ^ k ≤ 2 ^ 31 := Nat.pow_le_pow_right (by omega) (by omega)
      have hm : (A ^^^ B) % 2 ^ k < 2 ^ k := Nat.mod_lt _ (Nat.two_pow_pos k)
      have hAx : A / 2 ^ k ≤ A := Nat.div_le_self _ _
      have hBx : B / 2 ^ k ≤ B := Nat.div_le_self _ _
      have hPw : Hid (∀ w : World, _) := fun w => Power_any k w hk
      generalize A / 2 ^ k = X at *
      generalize B / 2 ^ k = Y at *
      by_cases hp : X % 2 = 1
      · by_cases hq : Y % 2 = 1
        · have hn : Hid ((A ^^^ B) % 2 ^ (k + 1) = (A ^^^ B) % 2 ^ k) := by have h1 := hs.out; rw [hb1.out] at h1; show _ = _; simpa [hp, hq] using h1
          clear hs hb1
          generalize (A ^^^ B) % 2 ^ k = M at *
          generalize 2 ^ k = P at *
          have tx : ((X : Int) % 2 == 1) = true := beq_iff_eq.2 (by omega)
          have ty : ((Y : Int) % 2 == 1) = true := beq_iff_eq.2 (by omega)
          go_wp2
          go_round
          case rel => exact ⟨k + 1, by omega, by go_num, by rw [hA.out]; go_num, by rw [hB.out]; go_num, by rw [hn.out]⟩
          case measure => simp [intOf]; omega
        · have hn : Hid ((A ^^^ B) % 2 ^ (k + 1) = (A ^^^ B) % 2 ^ k + 2 ^ k) := by have h1 := hs.out; rw [hb1.out] at h1; show _ = _; simpa [hp, hq] using h1
          clear hs hb1
          generalize (A ^^^ B) % 2 ^ k = M at *
          generalize 2 ^ k = P at *
          have tx : ((X : Int) % 2 == 1) = true := beq_iff_eq.2 (by omega)
          have ty : ((Y : Int) % 2 == 1) = false := beq_eq_false_iff_ne.2 (by omega)
          go_wp2_with (go_at_call 65; refine (hPw.out _).mono ?_; rintro e w' ⟨rfl, rfl⟩)
          go_round
          case rel => exact ⟨k + 1, by omega, by go_num, by rw [hA.out]; go_num, by rw [hB.out]; go_num, by rw [hn.out]; go_num⟩
          case measure => simp [intOf]; omega
      · by_cases hq : Y % 2 = 1
        · have hn : Hid ((A ^^^ B) % 2 ^ (k + 1) = (A ^^^ B) % 2 ^ k + 2 ^ k) := by have h1 := hs.out; rw [hb1.out] at h1; show _ = _; simpa [hp, hq] using h1
          clear hs hb1
          generalize (A ^^^ B) % 2 ^ k = M at *
          generalize 2 ^ k = P at *
          have tx : ((X : Int) % 2 == 1) = false := beq_eq_false_iff_ne.2 (by omega)
          have ty : ((Y : Int) % 2 == 1) = true := beq_iff_eq.2 (by omega)
          go_wp2_with (go_at_call 65; refine (hPw.out _).mono ?_; rintro e w' ⟨rfl, rfl⟩)
          go_round
          case rel => exact ⟨k + 1, by omega, by go_num, by rw [hA.out]; go_num, by rw [hB.out]; go_num, by rw [hn.out]; go_num⟩
          case measure => simp [intOf]; omega
        · have hn : Hid ((A ^^^ B) % 2 ^ (k + 1) = (A ^^^ B) % 2 ^ k) := by have h1 := hs.out; rw [hb1.out] at h1; show _ = _; simpa [hp, hq] using h1
          clear hs hb1
          generalize (A ^^^ B) % 2 ^ k = M at *
          generalize 2 ^ k = P at *
          have tx : ((X : Int) % 2 == 1) = false := beq_eq_false_iff_ne.2 (by omega)
          have ty : ((Y : Int) % 2 == 1) = false := beq_eq_false_iff_ne.2 (by omega)
          go_wp2
          go_round
          case rel => exact ⟨k + 1, by omega, by go_num, by rw [hA.out]; go_num, by rw [hB.out]; go_num, by rw [hn.out]⟩
          case measure => simp [intOf]; omega
    · obtain rfl : k = 32 := by omega
      go_wp2_with (go_at_call 47; refine (Of_any _ _ (by omega) (by omega)).mono ?_; rintro e w' ⟨rfl, rfl⟩)
      go_ret
      exact ⟨ret_int (by unfold Wd.lo; omega), rfl⟩


theorem bits_and' (a b : Int) (w : World) (ha : 0 ≤ a) (ha' : a < 4294967296) (hb : 0 ≤ b) (hb' : b < 4294967296) :
    Calls Try.prog 64 #[.int .i64 37, .int .u32 a, .int .u32 b] w fun e w' => e = .returned (.int .u32 (Wd.band a b)) ∧ w' = w := by
  obtain ⟨a, rfl⟩ := Int.eq_ofNat_of_zero_le ha
  obtain ⟨b, rfl⟩ := Int.eq_ofNat_of_zero_le hb
  exact bits_and a b w (by omega) (by omega)

theorem bits_or' (a b : Int) (w : World) (ha : 0 ≤ a) (ha' : a < 4294967296) (hb : 0 ≤ b) (hb' : b < 4294967296) :
    Calls Try.prog 64 #[.int .i64 36, .int .u32 a, .int .u32 b] w fun e w' => e = .returned (.int .u32 (Wd.bor a b)) ∧ w' = w := by
  obtain ⟨a, rfl⟩ := Int.eq_ofNat_of_zero_le ha
  obtain ⟨b, rfl⟩ := Int.eq_ofNat_of_zero_le hb
  exact bits_or a b w (by omega) (by omega)

theorem bits_xor' (a b : Int) (w : World) (ha : 0 ≤ a) (ha' : a < 4294967296) (hb : 0 ≤ b) (hb' : b < 4294967296) :
    Calls Try.prog 64 #[.int .i64 33, .int .u32 a, .int .u32 b] w fun e w' => e = .returned (.int .u32 (Wd.bxor a b)) ∧ w' = w := by
  obtain ⟨a, rfl⟩ := Int.eq_ofNat_of_zero_le ha
  obtain ⟨b, rfl⟩ := Int.eq_ofNat_of_zero_le hb
  exact bits_xor a b w (by omega) (by omega)

theorem Power_pw (b : Int) (w : World) (hb : 0 ≤ b) :
    Calls Try.prog 65 #[.int .i64 (b % 32)] w fun e w' => e = .returned (.int .i64 (Wd.pw b)) ∧ w' = w := by
  have h := Power_any (b.toNat % 32) w (by omega)
  rw [Wd.pw_nat b hb]
  rw [show ((b.toNat % 32 : Nat) : Int) = b % 32 by omega] at h
  exact h
theorem Power_rest (b : Int) (w : World) (hb : 0 ≤ b) :
    Calls Try.prog 65 #[.int .i64 (32 - b % 32)] w fun e w' => e = .returned (.int .i64 ((2 ^ (32 - b.toNat % 32) : Nat) : Int)) ∧ w' = w := by
  have h := Power_any (32 - b.toNat % 32) w (by omega)
  rw [show ((32 - b.toNat % 32 : Nat) : Int) = 32 - b % 32 by omega] at h
  exact h
theorem sll_eq (a b : Int) (ha : 0 ≤ a) (hb : 0 ≤ b) : a % ((2 ^ (32 - b.toNat % 32) : Nat) : Int) * Wd.pw b = Wd.lo (a * Wd.pw b) := by
  rw [Wd.pw_nat b hb]
  obtain ⟨a, rfl⟩ := Int.eq_ofNat_of_zero_le ha
  obtain ⟨b, rfl⟩ := Int.eq_ofNat_of_zero_le hb
  simp only [Int.toNat_natCast, Wd.lo]
  have h : a % 2 ^ (32 - b % 32) * 2 ^ (b % 32) = a * 2 ^ (b % 32) % 4294967296 := by
    have h1 : (4294967296 : Nat) = 2 ^ (32 - b % 32) * 2 ^ (b % 32) := by
      rw [← Nat.pow_add, show 32 - b % 32 + b % 32 = 32 by omega]
    rw [h1, Nat.mul_mod_mul_right]
  rw [← Int.natCast_emod, ← Int.natCast_mul, ← Int.natCast_mul, h]
  generalize a * 2 ^ (b % 32) = x
  omega
theorem sll_bd (a b : Int) (hb : 0 ≤ b) : 0 ≤ a % ((2 ^ (32 - b.toNat % 32) : Nat) : Int) ∧ a % ((2 ^ (32 - b.toNat % 32) : Nat) : Int) < 4294967296 := by
  have h1 : 2 ^ (32 - b.toNat % 32) ≤ 2 ^ 32 := Nat.pow_le_pow_right (by omega) (by omega)
  have h2 : 0 < 2 ^ (32 - b.toNat % 32) := Nat.two_pow_pos _
  generalize 2 ^ (32 - b.toNat % 32) = P at *
  have h3 := Int.emod_nonneg a (show (P : Int) ≠ 0 by omega)
  have h4 := Int.emod_lt_of_pos a (show (0 : Int) < P by omega)
  omega

theorem alu_28 (a b : Int) (w : World) (ha : 0 ≤ a) (ha' : a < 4294967296) (hb : 0 ≤ b) (hb' : b < 4294967296) :
    Calls Try.prog 52 #[.int .i64 28, .int .u32 a, .int .u32 b] w fun e w' => e = .returned (.int .u32 (Wd.alu 28 a b)) ∧ w' = w := by
  have sa := Wd.sg_bd ha ha'
  have sb := Wd.sg_bd hb hb'
  go_enter Try.func52, Try.ntmps52
  go_wp2_with (first | (go_at_call 61; refine (Signed_any _ _ (by omega) (by omega)).mono ?_; rintro e w' ⟨rfl, rfl⟩) | (go_at_call 47; refine (Of_any _ _ (by omega) (by omega)).mono ?_; rintro e w' ⟨rfl, rfl⟩))
  go_ret
  exact ⟨ret_int (rfl), rfl⟩

theorem alu_29 (a b : Int) (w : World) (ha : 0 ≤ a) (ha' : a < 4294967296) (hb : 0 ≤ b) (hb' : b < 4294967296) :
    Calls Try.prog 52 #[.int .i64 29, .int .u32 a, .int .u32 b] w fun e w' => e = .returned (.int .u32 (Wd.alu 29 a b)) ∧ w' = w := by
  have sa := Wd.sg_bd ha ha'
  have sb := Wd.sg_bd hb hb'
  go_enter Try.func52, Try.ntmps52
  go_wp2_with (first | (go_at_call 61; refine (Signed_any _ _ (by omega) (by omega)).mono ?_; rintro e w' ⟨rfl, rfl⟩) | (go_at_call 47; refine (Of_any _ _ (by omega) (by omega)).mono ?_; rintro e w' ⟨rfl, rfl⟩))
  go_ret
  exact ⟨ret_int (rfl), rfl⟩

theorem alu_37 (a b : Int) (w : World) (ha : 0 ≤ a) (ha' : a < 4294967296) (hb : 0 ≤ b) (hb' : b < 4294967296) :
    Calls Try.prog 52 #[.int .i64 37, .int .u32 a, .int .u32 b] w fun e w' => e = .returned (.int .u32 (Wd.alu 37 a b)) ∧ w' = w := by
  have sa := Wd.sg_bd ha ha'
  have sb := Wd.sg_bd hb hb'
  go_enter Try.func52, Try.ntmps52
  go_wp2_with (first | (go_at_call 64; refine (bits_and' _ _ _ (by omega) (by omega) (by omega) (by omega)).mono ?_; rintro e w' ⟨rfl, rfl⟩) | (go_at_call 61; refine (Signed_any _ _ (by omega) (by omega)).mono ?_; rintro e w' ⟨rfl, rfl⟩))
  go_ret
  exact ⟨ret_int (rfl), rfl⟩

theorem alu_36 (a b : Int) (w : World) (ha : 0 ≤ a) (ha' : a < 4294967296) (hb : 0 ≤ b) (hb' : b < 4294967296) :
    Calls Try.prog 52 #[.int .i64 36, .int .u32 a, .int .u32 b] w fun e w' => e = .returned (.int .u32 (Wd.alu 36 a b)) ∧ w' = w := by
  have sa := Wd.sg_bd ha ha'
  have sb := Wd.sg_bd hb hb'
  go_enter Try.func52, Try.ntmps52
  go_wp2_with (first | (go_at_call 64; refine (bits_or' _ _ _ (by omega) (by omega) (by omega) (by omega)).mono ?_; rintro e w' ⟨rfl, rfl⟩) | (go_at_call 61; refine (Signed_any _ _ (by omega) (by omega)).mono ?_; rintro e w' ⟨rfl, rfl⟩))
  go_ret
  exact ⟨ret_int (rfl), rfl⟩

theorem alu_33 (a b : Int) (w : World) (ha : 0 ≤ a) (ha' : a < 4294967296) (hb : 0 ≤ b) (hb' : b < 4294967296) :
    Calls Try.prog 52 #[.int .i64 33, .int .u32 a, .int .u32 b] w fun e w' => e = .returned (.int .u32 (Wd.alu 33 a b)) ∧ w' = w := by
  have sa := Wd.sg_bd ha ha'
  have sb := Wd.sg_bd hb hb'
  go_enter Try.func52, Try.ntmps52
  go_wp2_with (first | (go_at_call 64; refine (bits_xor' _ _ _ (by omega) (by omega) (by omega) (by omega)).mono ?_; rintro e w' ⟨rfl, rfl⟩) | (go_at_call 61; refine (Signed_any _ _ (by omega) (by omega)).mono ?_; rintro e w' ⟨rfl, rfl⟩))
  go_ret
  exact ⟨ret_int (rfl), rfl⟩

end Go.Proofs.Ythgnfmbnbndeeac.Rw
