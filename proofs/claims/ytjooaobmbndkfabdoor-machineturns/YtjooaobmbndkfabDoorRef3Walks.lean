/-
  What the functions of package ferrybridgeref3, and ferrybridgeref4.Bytes, return, each for every memory, op, place and word: as package mem's do; Bytes whether two memories are the same. Conditions: the words are from 0 to 2^32 - 1; the memory is one that a machine can hold.
-/
import Derived.Test.YtjooaobmbndkfabDoorMem
import Derived.Test.YtjooaobmbndkfabDoorWord
import Derived.Test.YtjooaobmbndkfabDoorRef1Walks
namespace Go.Proofs.YtjooaobmbndkfabDoor.Mr
open Go.ChangeShapes Go.WideShapes Go.ChangeAt Go.RowKit Mm
set_option linter.unusedVariables false
set_option linter.unusedSimpArgs false

def p8 (k : Nat) : Int := 256 ^ k
theorem p8_succ (k : Nat) : p8 (k + 1) = 256 * p8 k := by unfold p8; rw [Int.pow_succ, Int.mul_comm]
theorem p8_bd {k : Nat} (hk : k ≤ 4) : 1 ≤ p8 k ∧ p8 k ≤ 4294967296 := by
  have h : k = 0 ∨ k = 1 ∨ k = 2 ∨ k = 3 ∨ k = 4 := by omega
  rcases h with rfl | rfl | rfl | rfl | rfl <;> decide
theorem p8_bd3 {k : Nat} (hk : k < 4) : 1 ≤ p8 k ∧ p8 k ≤ 16777216 := by
  have h : k = 0 ∨ k = 1 ∨ k = 2 ∨ k = 3 := by omega
  rcases h with rfl | rfl | rfl | rfl <;> decide
theorem wide_neg {op X P : Int} (h11 : op = 11 → P = 256) (h12 : op = 12 → P = 65536) (h : op = 11 ∨ op = 12) (h0 : 0 ≤ X) (h1 : X < P) (hg : P / 2 ≤ X) : Wd.lo (X - P) = wide op X := by
  unfold Wd.lo wide
  rcases h with h | h
  · have := h11 h; rw [if_pos h, if_neg (by omega)]; omega
  · have := h12 h; rw [if_neg (by omega), if_pos h, if_neg (by omega)]; omega
theorem wide_pos {op X P : Int} (h11 : op = 11 → P = 256) (h12 : op = 12 → P = 65536) (h : (op = 11 ∨ op = 12) → ¬ P / 2 ≤ X) (h0 : 0 ≤ X) (h1 : X < P) (hP : P ≤ 4294967296) : Wd.lo X = wide op X := by
  unfold Wd.lo wide
  by_cases e1 : op = 11
  · have := h11 e1; have := h (.inl e1); rw [if_pos e1, if_pos (by omega)]; omega
  · by_cases e2 : op = 12
    · have := h12 e2; have := h (.inr e2); rw [if_neg e1, if_pos e2, if_pos (by omega)]; omega
    · rw [if_neg e1, if_neg e2]; omega
theorem ret2 {k : IntKind} {x y : Int} {b : Bool} (h : x = y) : Ending.returned (.tuple #[.int k x, .bool b]) = .returned (.tuple #[.int k y, .bool b]) := by rw [h]
theorem beq_t {a b : Int} (h : a = b) : (a == b) = true := by simp [h]
theorem beq_f {a b : Int} (h : ¬ a = b) : (a == b) = false := by simp [h]
theorem own_shape {w : World} {base n : Nat} {l : List UInt8} {v : Value} (h : w.ownsRow base 5 1 v (0 + n) ([] ++ bc l)) (hv : ¬ v = .slice none 0 0) :
    ∃ g cap, v = .slice (some ⟨g, 0, none⟩) n cap ∧ Row w g l ∧ base ≤ g := by
  obtain ⟨hlen, hc⟩ := h
  rcases hc with ⟨h0, _⟩ | ⟨g', cap', cur, rfl, hb, hg, hn, hm, hs, htake⟩
  · exact absurd h0 hv
  · refine ⟨g', cap', by simp, ⟨cur.toList.drop ((0 + n) * 1), ?_⟩, hb⟩
    have : bc l = cur.toList.take ((0 + n) * 1) := by rw [htake]; rfl
    rw [this, List.take_append_drop]
    simpa using hg
def q8 (x : Int) (k : Nat) : Int := x / 256 ^ k
theorem q8_succ (x : Int) (k : Nat) : q8 x (k + 1) = q8 x k / 256 := by
  unfold q8
  rw [Int.pow_succ, Int.ediv_ediv_of_nonneg (by exact Int.pow_nonneg (by omega))]
theorem q8_bd {x : Int} (h0 : 0 ≤ x) (h1 : x < 4294967296) (k : Nat) : 0 ≤ q8 x k ∧ q8 x k < 4294967296 := by
  unfold q8
  exact ⟨Int.ediv_nonneg h0 (Int.pow_nonneg (by omega)), Int.lt_of_le_of_lt (Int.ediv_le_self _ h0) h1⟩
/-- The string of the bytes l. -/
def sof (l : List UInt8) : ByteArray := ⟨l.toArray⟩
theorem sof_eq (a b : List UInt8) : ((sof a).toList == (sof b).toList) = decide (a = b) := by
  rw [ByteArray.toList_eq, ByteArray.toList_eq]
  show (a == b) = _
  exact (Bool.eq_iff_iff.2 (by simp))
theorem conv_any {w : World} {ao : Option Addr} {n : Nat} (cap : Nat) {l : List UInt8} (M : Mem w ao n l) : (convert 22 9 (.slice ao n cap)).run Tryd.prog w = .ok (.string (sof l)) w := by
  have hl := M.len
  cases ao with
  | none =>
    have h0 := M.nil rfl
    subst h0
    obtain rfl : l = [] := List.length_eq_zero_iff.1 hl
    rw [run_convert_bytes_string w 22 9 5 none 0 cap Tryd.underlying22 Tryd.underlying5 Tryd.underlying9]
    rfl
  | some ad =>
    subst hl
    exact run_convert_bytes_back w 22 9 5 ad cap l Tryd.underlying22 Tryd.underlying5 Tryd.underlying9 (fun j hj => by rw [M.cell ad rfl j hj, bv_of hj])
theorem Bytes_any {ao bo : Option Addr} {n m : Nat} (ca cb : Nat) {l k : List UInt8} {w : World} (A : Mem w ao n l) (B : Mem w bo m k) :
    Calls Tryd.prog 9 #[.slice ao n ca, .slice bo m cb] w fun e w' => e = .returned (.bool (decide (l = k))) ∧ w' = w := by
  have hA := conv_any ca A
  have hB := conv_any cb B
  have HE : Hid (((sof l).toList == (sof k).toList) = decide (l = k)) := sof_eq l k
  clear A B
  go_enter Tryd.func9, Tryd.ntmps9
  go_wp2
  go_ret
  exact ⟨ret_bool HE.out, rfl⟩
end Go.Proofs.YtjooaobmbndkfabDoor.Mr
