/-
  What a hart of a board did, as the cells of a struct (api.Did); what Board's Work answers.
-/
import Derived.Test.YtfolphjampklpaaDoorMb3
import Derived.Test.YtfolphjampklpaaDoorHa
namespace Go.Proofs.YtfolphjampklpaaDoor.Mc
open Go.ChangeShapes Go.WideShapes Go.ChangeAt Go.RowKit Mm Hh Hc
set_option linter.unusedVariables false
set_option linter.unusedSimpArgs false

/-- What a hart did: the hart, the memory, what came out, steps, where was stored (as slices). -/
structure Qv where
  h : Hv
  m : Value
  out : Value
  n : Int
  sto : Value
def qA (d : Qv) : Array Value := (hL d.h ++ [d.m, d.out, .int .i64 d.n, d.sto]).toArray
theorem qA_size {d : Qv} (o : d.h.Ok) : (qA d).size = 41 := by simp [qA, hL_len o]
theorem qA_get {d : Qv} (o : d.h.Ok) {i : Nat} (hi : i < 37) : (qA d)[i]? = (hL d.h)[i]? := by
  have := hL_len o
  unfold qA
  rw [List.getElem?_toArray, List.getElem?_append_left (by omega)]
theorem qA_fld {d : Qv} (o : d.h.Ok) (j : Nat) : (qA d)[37 + j]? = [d.m, d.out, .int .i64 d.n, d.sto][j]? := by
  unfold qA
  rw [List.getElem?_toArray, List.getElem?_append_right (by simp [hL_len o])]
  simp [hL_len o]
theorem one_qA {d : Qv} (h1 : d.m.oneCell' = true) (h2 : d.out.oneCell' = true) (h3 : d.sto.oneCell' = true) : (qA d).all (·.oneCell') = true := by
  refine all_oneCell_toArray ?_
  intro v hv
  simp only [hL, List.mem_append, List.mem_map, List.mem_cons, List.not_mem_nil, or_false] at hv
  rcases hv with (⟨n, _, rfl⟩ | rfl | rfl | rfl | rfl | rfl) | rfl | rfl | rfl | rfl <;> first | rfl | assumption
theorem iQ : (Tryd.prog.info? 104).map (·.size) = some 41 := by kernel_rfl
theorem zQ : (Tryd.prog.info? 104).bind (·.zero) = some (.agg (qA ⟨h0, nilS, nilS, 0, nilS⟩)) := by kernel_rfl
theorem fold_one (off : Nat) (v : Value) (cs : Array Value) : ((#[v] : Array Value).zipIdx.foldl (fun cs (x : Value × Nat) => cs.setIfInBounds (off + x.2) x.1) cs) = cs.setIfInBounds off v := rfl
theorem fold_hart {h : Hv} (o : h.Ok) (d : Qv) (od : d.h.Ok) : ((hA h).zipIdx.foldl (fun cs (x : Value × Nat) => cs.setIfInBounds (0 + x.2) x.1) (qA d)) = qA { d with h := h } := by
  have a1 := fold_set 0 (hA h) (qA d)
  have s1 := hA_size o
  have s2 := qA_size od
  apply Array.ext_getElem?
  intro k
  rw [a1.2 k]
  by_cases hk : k < 37
  · rw [if_pos (by omega), qA_get (d := { d with h := h }) o hk]
    simp [hA]
  · rw [if_neg (by omega)]
    obtain ⟨j, rfl⟩ : ∃ j, k = 37 + j := ⟨k - 37, by omega⟩
    rw [qA_fld od, qA_fld (d := { d with h := h }) o]
theorem qA_set {d : Qv} (o : d.h.Ok) (i : Nat) (v : Value) : (qA d).setIfInBounds (37 + i) v = (hL d.h ++ ([d.m, d.out, .int .i64 d.n, d.sto].set i v)).toArray := by
  have := hL_len o
  unfold qA
  simp only [List.setIfInBounds_toArray]
  rw [List.set_append_right _ _ (by omega), this, Nat.add_sub_cancel_left]
theorem built_five {P : Program} {t : TypeId} {it : TypeInfo} {z : Value} {fs : Array Field} {ps : List (Nat × Nat)} (hi : P.info? t = some it) (hu : P.underlying t = some (.struct fs)) (hz : it.zero = some z)
    (hp : fs.toList.mapM (fun f => (P.info? f.type).map fun i => (f.offset, i.size)) = some ps) {n : Nat} (p0 : ps.toArray[0]? = some (0, n)) (p1 : ps.toArray[1]? = some (n, 1)) (p2 : ps.toArray[2]? = some (n + 1, 1)) (p3 : ps.toArray[3]? = some (n + 2, 1)) (p4 : ps.toArray[4]? = some (n + 3, 1))
    (A : Array Value) (hA : A.size = n) (v1 v2 v3 v4 : Value) (h1 : v1.cells = #[v1]) (h2 : v2.cells = #[v2]) (h3 : v3.cells = #[v3]) (h4 : v4.cells = #[v4]) (hs : z.cells.size = n + 4) :
    P.built t [(0, .agg A), (1, v1), (2, v2), (3, v3), (4, v4)] = some ((((((A.zipIdx.foldl (fun cs (x : Value × Nat) => cs.setIfInBounds (0 + x.2) x.1) z.cells).setIfInBounds n v1).setIfInBounds (n + 1) v2).setIfInBounds (n + 2) v3).setIfInBounds (n + 3) v4)) := by
  unfold Program.built
  simp only [hi, hu, hz, hp]
  have a1 := (fold_set 0 A z.cells).1
  unfold Instr.fill
  simp only [p0]
  have e : (Value.agg A).cells = A := rfl
  rw [e, if_neg (by simp [hA]; omega)]
  unfold Instr.fill
  simp only [p1]
  rw [h1, if_neg (by rw [a1]; simp; omega), fold_one]
  unfold Instr.fill
  simp only [p2]
  rw [h2, if_neg (by rw [Array.size_setIfInBounds, a1]; simp; omega), fold_one]
  unfold Instr.fill
  simp only [p3]
  rw [h3, if_neg (by rw [Array.size_setIfInBounds, Array.size_setIfInBounds, a1]; simp; omega), fold_one]
  unfold Instr.fill
  simp only [p4]
  rw [h4, if_neg (by rw [Array.size_setIfInBounds, Array.size_setIfInBounds, Array.size_setIfInBounds, a1]; simp; omega), fold_one]
  unfold Instr.fill
  rfl
theorem built_did5 {h : Hv} (o : h.Ok) (m out : Value) (n : Int) (sto : Value) (h1 : m.cells = #[m]) (h2 : out.cells = #[out]) (h3 : sto.cells = #[sto]) :
    Tryd.prog.built 104 [(0, .agg (hA h)), (1, m), (2, out), (3, .int .i64 n), (4, sto)] = some (qA ⟨h, m, out, n, sto⟩) := by
  obtain ⟨it, hi, hz⟩ := info_zero zQ
  have z0 := h0_ok
  rw [built_five (n := 37) hi Tryd.underlying104 hz (ps := [(0, 37), (37, 1), (38, 1), (39, 1), (40, 1)]) (by kernel_rfl) rfl rfl rfl rfl rfl (hA h) (hA_size o) m out (.int .i64 n) sto h1 h2 rfl h3 (by show (qA _).size = 41; exact qA_size z0)]
  have c0 : (Value.agg (qA ⟨h0, nilS, nilS, 0, nilS⟩)).cells = qA ⟨h0, nilS, nilS, 0, nilS⟩ := rfl
  rw [c0, fold_hart o _ z0]
  have l := hL_len o
  unfold qA
  simp only [List.setIfInBounds_toArray, List.set_append_right _ _ (show (hL h).length ≤ 37 by omega), List.set_append_right _ _ (show (hL h).length ≤ 38 by omega), List.set_append_right _ _ (show (hL h).length ≤ 39 by omega), List.set_append_right _ _ (show (hL h).length ≤ 40 by omega), l]
  rfl
end Go.Proofs.YtfolphjampklpaaDoor.Mc
