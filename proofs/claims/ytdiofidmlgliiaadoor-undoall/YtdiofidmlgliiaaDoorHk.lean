/-
  How a struct that begins with a hart and a slice is built; steps of a region that draws its order: a load, a build, a store of a whole struct.
-/
import Derived.Test.YtdiofidmlgliiaaDoorHc
import Derived.Great.BuildSlice
namespace Go.Proofs.YtdiofidmlgliiaaDoor.Hc
open Go.ChangeShapes Go.WideShapes Go.ChangeAt Go.RowKit Mm Hh
set_option linter.unusedVariables false
set_option linter.unusedSimpArgs false

variable {P : Program} {t : TypeId} {h : Hv} {ops : Array Oper} {o : Oper} {a : Act} {w : World} {K : Act → World → Prop} {Q : Exit → Act → World → Prop} {E : Prop}
theorem fold_set (off : Nat) (v cs : Array Value) : (v.zipIdx.foldl (fun cs (x : Value × Nat) => cs.setIfInBounds (off + x.2) x.1) cs).size = cs.size ∧
    ∀ k, (v.zipIdx.foldl (fun cs (x : Value × Nat) => cs.setIfInBounds (off + x.2) x.1) cs)[k]? = if off ≤ k ∧ k < off + v.size ∧ k < cs.size then v[k - off]? else cs[k]? := by
  have h := Great.foldl_set off v.toList 0 cs
  rw [← Array.foldl_toList, Array.toList_zipIdx]
  refine ⟨h.1, fun k => ?_⟩
  rw [h.2 k]
  simp
/-- A struct whose first field has n cells, and whose second field has one. -/
theorem built_two {it : TypeInfo} {z : Value} {fs : Array Field} {ps : List (Nat × Nat)} (hi : P.info? t = some it) (hu : P.underlying t = some (.struct fs)) (hz : it.zero = some z)
    (hp : fs.toList.mapM (fun f => (P.info? f.type).map fun i => (f.offset, i.size)) = some ps) {n : Nat} (p0 : ps.toArray[0]? = some (0, n)) (p1 : ps.toArray[1]? = some (n, 1)) (A : Array Value) (hA : A.size = n) (v : Value) (hv : v.cells = #[v]) (hs : n + 1 ≤ z.cells.size)
    (R : Array Value) (hR : R.size = z.cells.size) (h1 : ∀ k, k < n → R[k]? = A[k]?) (h2 : R[n]? = some v) (h3 : ∀ k, n < k → R[k]? = z.cells[k]?) : P.built t [(0, .agg A), (1, v)] = some R := by
  unfold Program.built
  simp only [hi, hu, hz, hp]
  have a1 := fold_set 0 A z.cells
  have a2 := fold_set n #[v] (A.zipIdx.foldl (fun cs (x : Value × Nat) => cs.setIfInBounds (0 + x.2) x.1) z.cells)
  unfold Instr.fill
  simp only [p0]
  have e : (Value.agg A).cells = A := rfl
  rw [e, if_neg (by simp [hA]; omega)]
  unfold Instr.fill
  simp only [p1]
  rw [hv, if_neg (by rw [a1.1]; simp; omega)]
  unfold Instr.fill
  congr 1
  apply Array.ext_getElem?
  intro k
  rw [a2.2 k, a1.2 k, a1.1]
  by_cases hk : k < n
  · rw [if_neg (by omega), if_pos (by omega), h1 k hk]; simp
  · by_cases hk2 : k = n
    · subst hk2
      rw [if_pos (by simp; omega), h2]; simp
    · rw [if_neg (by simp; omega), if_neg (by omega), h3 k (by omega)]
theorem info_zero {v : Value} (h : (P.info? t).bind (·.zero) = some v) : ∃ it, P.info? t = some it ∧ it.zero = some v := by
  cases hi : P.info? t with
  | none => simp [hi] at h
  | some it => exact ⟨it, rfl, by simpa [hi] using h⟩

/-- The empty hart. -/
def h0 : Hv := ⟨List.replicate 32 0, 0, false, 0, 0, 0⟩
theorem h0_ok : h0.Ok := ⟨rfl, fun i => by unfold rg h0; simp only [List.getD, List.getElem?_replicate]; split <;> simp, by decide, by decide, by decide, by decide⟩
def nilS : Value := .slice none 0 0
theorem one_cA (c : Cv) (h1 : c.m.oneCell' = true) (h2 : c.out.oneCell' = true) (h3 : c.sto.oneCell' = true) : (cA c).all (·.oneCell') = true := by
  refine all_oneCell_toArray ?_
  intro v hv
  simp only [hL, List.mem_append, List.mem_map, List.mem_cons, List.not_mem_nil, or_false] at hv
  rcases hv with (⟨n, _, rfl⟩ | rfl | rfl | rfl | rfl | rfl) | rfl | rfl | rfl <;> first | rfl | assumption
theorem zCore : (Tryd.prog.info? 146).bind (·.zero) = some (.agg (cA ⟨h0, nilS, nilS, nilS⟩)) := by kernel_rfl
theorem zDid : (Tryd.prog.info? 81).bind (·.zero) = some (.agg (dA ⟨h0, nilS, nilS, 0, 0⟩)) := by kernel_rfl
theorem zHart : (Tryd.prog.info? 70).bind (·.zero) = some (.agg (hA h0)) := by kernel_rfl
theorem built_core (o : h.Ok) (v : Value) (hv : v.cells = #[v]) : Tryd.prog.built 146 [(0, .agg (hA h)), (1, v)] = some (cA ⟨h, v, nilS, nilS⟩) := by
  obtain ⟨it, hi, hz⟩ := info_zero zCore
  have hl := hL_len o
  have z := hL_len h0_ok
  refine built_two (n := 37) hi Tryd.underlying146 hz (ps := [(0, 37), (37, 1), (38, 1), (39, 1)]) (by kernel_rfl) rfl rfl (hA h) (hA_size o) v hv (by show 38 ≤ (cA _).size; rw [cA_size h0_ok]; omega) _ ?_ ?_ ?_ ?_
  · show (cA _).size = (cA _).size; rw [cA_size (c := ⟨h, v, nilS, nilS⟩) o, cA_size h0_ok]
  · intro k hk; rw [cA_get (c := ⟨h, v, nilS, nilS⟩) o hk]; simp [hA]
  · exact cA_fld (c := ⟨h, v, nilS, nilS⟩) o 0
  · intro k hk
    obtain ⟨j, rfl⟩ : ∃ j, k = 37 + (j + 1) := ⟨k - 38, by omega⟩
    show (cA _)[_]? = (cA _)[_]?
    rw [cA_fld (c := ⟨h, v, nilS, nilS⟩) o, cA_fld (c := ⟨h0, nilS, nilS, nilS⟩) h0_ok]
    rfl
theorem built_did (o : h.Ok) (v : Value) (hv : v.cells = #[v]) : Tryd.prog.built 81 [(0, .agg (hA h)), (1, v)] = some (dA ⟨h, v, nilS, 0, 0⟩) := by
  obtain ⟨it, hi, hz⟩ := info_zero zDid
  have hl := hL_len o
  have z := hL_len h0_ok
  refine built_two (n := 37) hi Tryd.underlying81 hz (ps := [(0, 37), (37, 1), (38, 1), (39, 1), (40, 1)]) (by kernel_rfl) rfl rfl (hA h) (hA_size o) v hv (by show 38 ≤ (dA _).size; rw [dA_size h0_ok]; omega) _ ?_ ?_ ?_ ?_
  · show (dA _).size = (dA _).size; rw [dA_size (d := ⟨h, v, nilS, 0, 0⟩) o, dA_size h0_ok]
  · intro k hk; rw [dA_get (d := ⟨h, v, nilS, 0, 0⟩) o hk]; simp [hA]
  · exact dA_fld (d := ⟨h, v, nilS, 0, 0⟩) o 0
  · intro k hk
    obtain ⟨j, rfl⟩ : ∃ j, k = 37 + (j + 1) := ⟨k - 38, by omega⟩
    show (dA _)[_]? = (dA _)[_]?
    rw [dA_fld (d := ⟨h, v, nilS, 0, 0⟩) o, dA_fld (d := ⟨h0, nilS, nilS, 0, 0⟩) h0_ok]
    rfl
theorem built_h0 : Tryd.prog.built 70 [] = some (hA h0) := by kernel_rfl
theorem built_c0 : Tryd.prog.built 146 [] = some (cA ⟨h0, nilS, nilS, nilS⟩) := by kernel_rfl

/-! Steps of a region that draws its order -/
theorem step_load (hg : o.guard = none) (ty : TypeId) (x : Operand) (ho : o.op = .load ty x)
    (b : Nat) (hx : a.eval x = .pointer (some ⟨b, 0, none⟩)) (cs : List Value) (d : TypeDesc) (hc : w.rangeAt b 0 cs) (hu : P.underlying ty = some d) (hd : d.isRow = true) (hi : (P.info? ty).map (·.size) = some cs.length)
    (h : K (a.put o.dst (.agg cs.toArray)) w) : if Region.wanted o (yielded ops a.tmps) = true then Oper.wp P o a w K Q else E := by
  rw [if_pos (by simp [Region.wanted, hg])]
  exact wp_load_mid ty x ho b 0 hx cs d hc hu hd hi h
theorem step_load_row (hgd : o.guard = none) (ty : TypeId) (x : Operand) (ho : o.op = .load ty x)
    (g : Nat) (hx : a.eval x = .pointer (some ⟨g, 0, none⟩)) (t : TypeId) (cs : Array Value) (fr : Nat × Nat) (d : TypeDesc) (hg : w.heap[g]? = some (.cells cs t fr))
    (hu : P.underlying ty = some d) (hd : (match d with | .struct _ | .array _ _ => true | _ => false) = true) (hi : (P.info? ty).map (·.size) = some cs.size)
    (h : K (a.put o.dst (.agg cs)) w) : if Region.wanted o (yielded ops a.tmps) = true then Oper.wp P o a w K Q else E := by
  rw [if_pos (by simp [Region.wanted, hgd])]
  exact wp_load_row ty x ho g hx t cs fr d hg hu hd hi h
theorem step_build (hg : o.guard = none) (t : TypeId) (parts : Array (Nat × Operand)) (ho : o.op = .build t parts)
    (cells : Array Value) (hf : P.built t (parts.map fun (i, x) => (i, a.eval x)).toList = some cells) (h : K (a.put o.dst (.agg cells)) w) : if Region.wanted o (yielded ops a.tmps) = true then Oper.wp P o a w K Q else E := by
  rw [if_pos (by simp [Region.wanted, hg])]
  unfold Oper.wp execOp
  simp only [ho, Sem.run_bind, run_build w t _ _ hf, Result.andThen_ok]
  exact h
theorem step_store (hg : o.guard = none) (ty : TypeId) (x y : Operand) (ho : o.op = .store ty x y)
    (g : Nat) (cells : Array Value) (hx : a.eval x = .pointer (some ⟨g, 0, none⟩)) (hy : a.eval y = .agg cells) (t : TypeId) (old : Array Value) (hb : w.heap[g]? = some (.cells old t (0, 0))) (hi : (P.info? ty).map (·.size) = some cells.size)
    (hold : old.size = cells.size) (h1 : cells.all (·.oneCell') = true) (h : K (a.put o.dst undef) (w.setRow g cells)) : if Region.wanted o (yielded ops a.tmps) = true then Oper.wp P o a w K Q else E := by
  rw [if_pos (by simp [Region.wanted, hg])]
  unfold Oper.wp execOp
  simp only [ho, hx, hy, Instr.storeAt, Instr.sureAddr, Sem.run_bind, Sem.run_pure, Result.andThen_ok, run_storeVar_row w g t ty old cells hb hi hold h1]
  exact h
end Go.Proofs.YtdiofidmlgliiaaDoor.Hc
