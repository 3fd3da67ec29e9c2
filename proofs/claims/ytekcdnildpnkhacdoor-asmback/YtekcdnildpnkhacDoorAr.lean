/-
  What the functions Digits and x of package ferrybridgeref11 answer: a number's digits ('num'), a register's ('rg').
-/
import Derived.Test.YtekcdnildpnkhacDoorMem
import Derived.Test.YtekcdnildpnkhacDoorAq
import Derived.Deep.RegionWith
import Derived.Laws.BytesString
import Derived.Laws.Cells
namespace Go.Proofs.YtekcdnildpnkhacDoor.As
open Go.ChangeShapes Go.WideShapes Go.ChangeAt Go.RowKit Mm
set_option linter.unusedVariables false

/-- A text as a value. -/
def str (l : List Nat) : Value := .string ⟨(l.map UInt8.ofNat).toArray⟩
theorem str_app (a b : List Nat) : Value.string (⟨(a.map UInt8.ofNat).toArray⟩ ++ ⟨(b.map UInt8.ofNat).toArray⟩) = str (a ++ b) := by
  unfold str
  congr 1
  apply ByteArray.ext
  simp [ByteArray.data_append]
theorem num_len {n : Int} (h0 : -1000000000000 < n) (h1 : n < 1000000000000) : (num n).length ≤ 20 := by
  have := dg_len 17 n.natAbs (by omega)
  unfold num
  split <;> simp <;> omega
theorem conv_one (w : World) (x : Int) (c : Nat) : Sem.run Tryd.prog (convert 46 9 (.slice (some ⟨w.heap.size, 0, none⟩) 1 c)) (w.alloc (.cells #[.int .u8 x] 5)) = .ok (str [x.toNat]) (w.alloc (.cells #[.int .u8 x] 5)) := by
  rw [run_convert_bytes_string _ _ _ _ _ _ _ Tryd.underlying46 Tryd.underlying5 Tryd.underlying9]
  have h : Sem.run Tryd.prog (loadCells ⟨w.heap.size, 0, none⟩ 1) (w.alloc (.cells #[.int .u8 x] 5)) = .ok ([x].map (Value.int .u8)).toArray (w.alloc (.cells #[.int .u8 x] 5)) :=
    run_loadCells_list _ _ ([x].map (Value.int .u8)) fun j v hv => by
      have hj : j < 1 := by have := (List.getElem?_eq_some_iff.1 hv).1; simpa using this
      obtain rfl : j = 0 := by omega
      simp at hv
      rw [show (⟨w.heap.size, 0, none⟩ : Addr).add 0 = ⟨w.heap.size, 0, none⟩ by simp [Addr.add], cr (heap_alloc_new w _)]
      simp [hv]
  rw [run_bytesToString _ _ _ _ [x] h]
  rfl

end Go.Proofs.YtekcdnildpnkhacDoor.As
