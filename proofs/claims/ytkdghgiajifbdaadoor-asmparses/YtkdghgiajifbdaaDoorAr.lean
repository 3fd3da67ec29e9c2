/-
  What the functions Digits and x of package ferrybridgeref11 answer: a number's digits ('num'), a register's ('rg').
-/
import Derived.Test.YtkdghgiajifbdaaDoorMem
import Derived.Test.YtkdghgiajifbdaaDoorAq
import Derived.Deep.RegionWith
import Derived.Laws.BytesString
import Derived.Laws.Cells
namespace Go.Proofs.YtkdghgiajifbdaaDoor.As
open Go.ChangeShapes Go.WideShapes Go.ChangeAt Go.RowKit Mm
set_option linter.unusedVariables false

/-- A text as a value. -/
def str (l : List Nat) : Value := .string ⟨(l.map UInt8.ofNat).toArray⟩
theorem str_app (a b : List Nat) : Value.string (⟨(a.map UInt8.ofNat).toArray⟩ ++ ⟨(b.map UInt8.ofNat).toArray⟩) = str (a ++ b) := by
  unfold str
  congr 1
  apply ByteArray.ext
  simp [ByteArray.data_append]
theorem num_len {n : Int} (h0 : -1000000000000 < n) (h1 : n < 1000000000000) : (num n).length ≤ 20 := by
  have := dg_len 17 n.natAbs (by omega)
  unfold num
  split <;> simp <;> omega
theorem conv_one (w : World) (x : Int) (c : Nat) : Sem.run Tryd.prog (convert 35 9 (.slice (some ⟨w.heap.size, 0, none⟩) 1 c)) (w.alloc (.cells #[.int .u8 x] 5)) = .ok (str [x.toNat]) (w.alloc (.cells #[.int .u8 x] 5)) := by
  rw [run_convert_bytes_string _ _ _ _ _ _ _ Tryd.underlying35 Tryd.underlying5 Tryd.underlying9]
  have h : Sem.run Tryd.prog (loadCells ⟨w.heap.size, 0, none⟩ 1) (w.alloc (.cells #[.int .u8 x] 5)) = .ok ([x].map (Value.int .u8)).toArray (w.alloc (.cells #[.int .u8 x] 5)) :=
    run_loadCells_list _ _ ([x].map (Value.int .u8)) fun j v hv => by
      have hj : j < 1 := by have := (List.getElem?_eq_some_iff.1 hv).1; simpa using this
      obtain rfl : j = 0 := by omega
      simp at hv
      rw [show (⟨w.heap.size, 0, none⟩ : Addr).add 0 = ⟨w.heap.size, 0, none⟩ by simp [Addr.add], cr (heap_alloc_new w _)]
      simp [hv]
  rw [run_bytesToString _ _ _ _ [x] h]
  rfl

set_option maxHeartbeats 1000000 in
set_option maxRecDepth 100000 in
theorem Digits_lo {n : Nat} (h : n < 10) (w : World) : Calls Tryd.prog 48 #[.int .i64 (n : Int)] w fun e w' => e = .returned (str (dg n)) ∧ Gr w w' := by
  have h0 : ¬ ((n : Int) < 0) := by omega
  have h1 : (n : Int) < 10 := by omega
  have h2 : (0 : Int) ≤ n := by omega
  have HC : Hid (∀ (w : World) (x : Int) (c : Nat), _) := conv_one
  have HE : Hid (str [(48 + (n : Int) % 10).toNat] = str (dg n)) := by unfold Hid; rw [dg_lo h]; congr 2; omega
  go_enter Tryd.func48, Tryd.ntmps48
  go_wp2_with fail
  rw [HC.out]
  go_wp2_with fail
  go_ret
  exact ⟨congrArg Ending.returned HE.out, (Gr.refl _).alloc _⟩
set_option maxHeartbeats 1000000 in
set_option maxRecDepth 100000 in
theorem Digits_hi {n : Nat} (h : ¬ n < 10) (hn : n < 10 ^ 18) (ih : ∀ w : World, Calls Tryd.prog 48 #[.int .i64 ((n / 10 : Nat) : Int)] w fun e w' => e = .returned (str (dg (n / 10))) ∧ Gr w w') (w : World) :
    Calls Tryd.prog 48 #[.int .i64 (n : Int)] w fun e w' => e = .returned (str (dg n)) ∧ Gr w w' := by
  have h0 : ¬ ((n : Int) < 0) := by omega
  have h1 : ¬ (n : Int) < 10 := by omega
  have h2 : (0 : Int) ≤ n := by omega
  have h3 : (n : Int) < 1000000000000000000 := by omega
  have h4 : (0 : Int) ≤ (n : Int) / 10 := by omega
  have h5 : (n : Int) / 10 < 1000000000000000000 := by omega
  have HC : Hid (∀ (w : World) (x : Int) (c : Nat), _) := conv_one
  have HI : Hid (∀ w : World, Calls Tryd.prog 48 #[.int .i64 ((n : Int) / 10)] w fun e w' => e = .returned (str (dg (n / 10))) ∧ Gr w w') := fun w => by
    have := ih w
    rwa [show ((n / 10 : Nat) : Int) = (n : Int) / 10 by omega] at this
  obtain ⟨b, hb, hl, HE⟩ : ∃ b, [(48 + (n : Int) % 10).toNat] = b ∧ ¬ 9223372036854775807 < (dg (n / 10)).length + b.length ∧ Hid (str (dg (n / 10) ++ b) = str (dg n)) :=
    ⟨_, rfl, by have := dg_len 17 (n / 10) (by omega); simp; omega, by unfold Hid; rw [dg_hi h, show (48 + (n : Int) % 10).toNat = 48 + n % 10 by omega]⟩
  have HB : Hid _ := hb
  have hz : (((n : Int) < 10) = False) := by simp; omega
  clear ih hn h h1 hb
  generalize dg (n / 10) = a at *
  go_enter Tryd.func48, Tryd.ntmps48
  go_wp2_with fail
  rw [HC.out, HB.out]
  go_wp2_with fail
  refine (HI.out _).mono ?_
  rintro e w1 ⟨rfl, G1⟩
  unfold str
  go_wp2_with fail
  go_ret
  exact ⟨congrArg Ending.returned ((str_app _ _).trans HE.out), ((Gr.refl _).alloc _).trans G1⟩
theorem Digits_nat : ∀ (k n : Nat), n < 10 ^ (k + 1) → k ≤ 17 → ∀ w : World, Calls Tryd.prog 48 #[.int .i64 (n : Int)] w fun e w' => e = .returned (str (dg n)) ∧ Gr w w'
  | 0, n, hn, _, w => Digits_lo (by simpa using hn) w
  | k + 1, n, hn, hk, w => by
    by_cases h : n < 10
    · exact Digits_lo h w
    · exact Digits_hi h (Nat.lt_of_lt_of_le hn (Nat.pow_le_pow_right (by omega) (by omega))) (Digits_nat k (n / 10) (by rw [Nat.pow_succ] at hn; omega) (by omega)) w
set_option maxHeartbeats 1000000 in
set_option maxRecDepth 100000 in
/-- A number's digits. -/
theorem Digits_any {n : Int} (h0 : -1000000000000 < n) (h1 : n < 1000000000000) (w : World) : Calls Tryd.prog 48 #[.int .i64 n] w fun e w' => e = .returned (str (num n)) ∧ Gr w w' := by
  have HD : Hid (∀ w : World, Calls Tryd.prog 48 #[.int .i64 (n.natAbs : Int)] w fun e w' => e = .returned (str (dg n.natAbs)) ∧ Gr w w') := Digits_nat 11 n.natAbs (by omega) (by omega)
  unfold num
  by_cases hn : n < 0
  · rw [if_pos hn]
    rw [show (n.natAbs : Int) = -n by omega] at HD
    have h2 : -n < 1000000000000 := by omega
    have hl : ¬ 9223372036854775807 < 1 + (dg n.natAbs).length := by have := dg_len 17 n.natAbs (by omega); omega
    generalize dg n.natAbs = a at *
    go_enter Tryd.func48, Tryd.ntmps48
    go_wp2_with fail
    refine (HD.out _).mono ?_
    rintro e w1 ⟨rfl, G1⟩
    unfold str
    go_wp2_with fail
    go_ret
    exact ⟨congrArg Ending.returned (str_app [45] _), G1⟩
  · rw [if_neg hn]
    rw [show (n.natAbs : Int) = n by omega] at HD
    exact HD.out w
set_option maxHeartbeats 1000000 in
set_option maxRecDepth 100000 in
theorem x_any {n : Int} (h0 : -1000000000000 < n) (h1 : n < 1000000000000) (w : World) : Calls Tryd.prog 49 #[.int .i64 n] w fun e w' => e = .returned (str (rg n)) ∧ Gr w w' := by
  have HD : Hid (∀ w : World, _) := Digits_any h0 h1
  have hl : ¬ 9223372036854775807 < 1 + (num n).length := by have := num_len h0 h1; omega
  unfold rg
  generalize num n = a at *
  go_enter Tryd.func49, Tryd.ntmps49
  go_wp2_with fail
  refine (HD.out _).mono ?_
  rintro e w1 ⟨rfl, G1⟩
  unfold str
  go_wp2_with fail
  go_ret
  exact ⟨congrArg Ending.returned (str_app [120] _), G1⟩
end Go.Proofs.YtkdghgiajifbdaaDoor.As
