/-
  A slice of bytes that is handed in: the bytes that it reads as, where they lie ('Mem'), and how many there can be.
-/
import Derived.Test.YtdiofidmlgliiaaDoorMem
import Derived.ProofKit
import Derived.SizedLaws
namespace Go.Proofs.YtdiofidmlgliiaaDoor.Mm
open Go.ChangeShapes Go.WideShapes Go.ChangeAt Go.RowKit
set_option linter.unusedVariables false

theorem cells5 : Tryd.prog.cellsOf 5 = 1 := by kernel_rfl
theorem bytes5 : Tryd.prog.bytesOf 5 = 1 := by kernel_rfl
theorem laidOut : laidOutB Tryd.prog = true := by kernel_rfl
theorem own : ownKnob Tryd.prog.godebug = none := by kernel_rfl

theorem bv_map {Z : List Int} (hz : ∀ n ∈ Z, (Lit.int .u8 n).wf = true) (t : Nat) (ht : t < Z.length) : bv (Z.map fun z => UInt8.ofNat z.toNat) t = Z.getD t 0 := by
  have hm : Z[t] ∈ Z := List.getElem_mem ht
  have hw := hz _ hm
  have hb : 0 ≤ Z[t] ∧ Z[t] ≤ 255 := by simpa [Lit.wf, IntKind.min, IntKind.max, IntKind.signed, IntKind.bits] using hw
  unfold bv
  simp only [List.getD, List.getElem?_map, List.getElem?_eq_getElem ht, Option.map_some, Option.getD_some]
  rw [UInt8.toNat_ofNat']
  omega

/-- An argument of type []byte, opened once, nil or not. -/
theorem open_mem {H : Type} {enc : TypeId × Value → H} {W : World} {fuel : Nat} {ao : Option Addr} {len cap : Nat} {d : DataW H} {p : List MemPlace}
    (hf : DataW.trod enc Tryd.prog W 0 (fun _ => true) true fuel 31 (Value.slice ao len cap).cells.toList = some (d, p)) :
    ∃ l : List UInt8, Mem W ao len l ∧ (d = .nil ∧ len = 0 ∨ ∃ zs sp, d = .slice (lits .u8 zs) sp ∧ zs.length = len) := by
  rcases open_ints Tryd.underlying31 Tryd.underlying5 cells5 hf with ⟨hcs, hx⟩ | ⟨a, len', cap', zs, hcs, _, hl, hm, hz, hx, hcell, hwz⟩
  · simp [Value.cells] at hcs
    obtain ⟨rfl, rfl, rfl⟩ := hcs
    simp only [Prod.mk.injEq] at hx
    obtain ⟨rfl, rfl⟩ := hx
    exact ⟨[], Mem.none _, Or.inl ⟨rfl, rfl⟩⟩
  · simp [Value.cells] at hcs
    obtain ⟨rfl, rfl, rfl⟩ := hcs
    simp only [Prod.mk.injEq] at hx
    obtain ⟨rfl, rfl⟩ := hx
    simp only [if_true] at hz
    refine ⟨(zs.take len).map fun z => UInt8.ofNat z.toNat, ⟨by simp; omega, (fun h => by cases h), fun ad h t ht => ?_⟩, Or.inr ⟨_, _, rfl, by simp; omega⟩⟩
    obtain rfl := Option.some.inj h
    rw [hcell t (by omega), bv_map (fun n hn => hwz n (List.mem_of_mem_take hn)) t (by simp; omega)]
    simp [List.getD, ht]
end Go.Proofs.YtdiofidmlgliiaaDoor.Mm
