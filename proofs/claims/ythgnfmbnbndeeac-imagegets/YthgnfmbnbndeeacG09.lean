/-
  Bp, Bk, Hf, Hm6, MemArgs, Hao, Ha, Mb4, Mb5, Mb6, Mb7, Mb8, Mb9: texts of ours that lie in one file.
-/
import Derived.Test.YthgnfmbnbndeeacG02
import Derived.Test.YthgnfmbnbndeeacG08
import Derived.Test.YthgnfmbnbndeeacG03
import Derived.Deep.RegionHeld3
import Derived.Test.YthgnfmbnbndeeacG01
import Derived.ProofKit
import Derived.SizedLaws
import Derived.Laws.OwnMore
import Derived.Deep.RegionWith
/-
  A block as plain data: the words of its instructions ('blk').
-/
namespace Go.Proofs.Ythgnfmbnbndeeac.Bk
open Mm Hh
set_option linter.unusedVariables false

variable {l : List UInt8} {pc : Int} {n k : Nat}
/-- Why no instruction stands at pc: 1, no word; 2, none is; 0: one stands there. -/
def ftC (l : List UInt8) (pc : Int) : Int := if ldOk l 13 pc = true then (if Dc.dop (ldV l 13 pc) = 0 then 2 else 0) else 1
/-- Does a block end with it? -/
def lastOp (op : Int) : Bool := decide ((3 ≤ op ∧ op ≤ 10) ∨ op = 58 ∨ op = 59)
/-- The place of the k-th instruction. -/
def at4 (pc : Int) (k : Nat) : Int := Wd.lo (pc + 4 * k)
/-- The words of at most n instructions, from the k-th one on. -/
def blk (l : List UInt8) (pc : Int) : Nat → Nat → List Int
  | 0, _ => []
  | n + 1, k => if ftC l (at4 pc k) = 0 then ldV l 13 (at4 pc k) :: (if lastOp (Dc.dop (ldV l 13 (at4 pc k))) = true then [] else blk l pc n (k + 1)) else []
theorem at4_bd (pc : Int) (k : Nat) : 0 ≤ at4 pc k ∧ at4 pc k < 4294967296 := by unfold at4 Wd.lo; omega
theorem blk_stop (h : ¬ ftC l (at4 pc k) = 0) : blk l pc (n + 1) k = [] := by unfold blk; rw [if_neg h]
theorem blk_last (h : ftC l (at4 pc k) = 0) (hl : lastOp (Dc.dop (ldV l 13 (at4 pc k))) = true) : blk l pc (n + 1) k = [ldV l 13 (at4 pc k)] := by unfold blk; rw [if_pos h, if_pos hl]
theorem blk_on (h : ftC l (at4 pc k) = 0) (hl : lastOp (Dc.dop (ldV l 13 (at4 pc k))) = false) : blk l pc (n + 1) k = ldV l 13 (at4 pc k) :: blk l pc n (k + 1) := by
  rw [blk, if_pos h, if_neg (by simp [hl])]
theorem blk_zero (l : List UInt8) (pc : Int) (k : Nat) : blk l pc (16 - 16) k = [] := rfl
theorem ldV_no (h : ldOk l 13 pc = false) : ldV l 13 pc = 0 := by unfold ldV; rw [h]; rfl
theorem dop0 : Dc.dop 0 = 0 := by decide
end Go.Proofs.Ythgnfmbnbndeeac.Bk
/-
  A block as cells of memory ('blC').
-/
namespace Go.Proofs.Ythgnfmbnbndeeac.Bk
open Go.ChangeShapes Go.WideShapes Go.ChangeAt Go.RowKit Mm Hh
set_option linter.unusedVariables false

/-- An instruction's cells. -/
def insC (x : Int) : List Value := [.int .i64 (Dc.dop x), .int .i64 (Dc.rdF (Dc.frm (Dc.dop x)) x), .int .i64 (Dc.rs1F (Dc.frm (Dc.dop x)) x), .int .i64 (Dc.rs2F (Dc.frm (Dc.dop x)) x), .int .i32 (Dc.immF (Dc.frm (Dc.dop x)) x)]
theorem decV_insC (x : Int) : Dw.decV x = .agg (insC x).toArray := rfl
def blC (xs : List Int) : List Value := xs.flatMap insC
theorem blC_snoc (xs : List Int) (x : Int) : blC (xs ++ [x]) = blC xs ++ insC x := by simp [blC]
theorem blC_len (xs : List Int) : (blC xs).length = xs.length * 5 := by
  induction xs with
  | nil => rfl
  | cons p r ih => simp only [blC, List.flatMap_cons, List.length_append, List.length_cons] at ih ⊢; rw [ih]; simp [insC]; omega
theorem blC_get : ∀ (xs : List Int) (i j : Nat) (x : Int), xs[i]? = some x → j < 5 → (blC xs)[i * 5 + j]? = (insC x)[j]?
  | [], i, j, x, h, _ => by simp at h
  | p :: r, 0, j, x, h, hj => by
    simp at h; subst h
    show (insC p ++ blC r)[0 * 5 + j]? = _
    rw [Nat.zero_mul, Nat.zero_add, List.getElem?_append_left (by simpa [insC] using hj)]
  | p :: r, i + 1, j, x, h, hj => by
    have ih := blC_get r i j x (by simpa using h) hj
    show (insC p ++ blC r)[(i + 1) * 5 + j]? = _
    rw [List.getElem?_append_right (by simp [insC]; omega)]
    rw [show (i + 1) * 5 + j - (insC p).length = i * 5 + j by simp [insC]; omega]
    exact ih
theorem insC_one (x : Int) : ∀ u ∈ insC x, u.oneCell' = true := by
  intro u hu
  simp only [insC, List.mem_cons, List.not_mem_nil, or_false] at hu
  rcases hu with rfl | rfl | rfl | rfl | rfl <;> rfl
end Go.Proofs.Ythgnfmbnbndeeac.Bk
/-
  What package hart's Fetch answers: the instruction at a place, and 0; else an empty one, and why. Conditions: the place is from 0 to 2^32 - 1; the memory is one that a machine can hold; the tables of package decode hold what their initialisers lay.
-/
namespace Go.Proofs.Ythgnfmbnbndeeac.Hf
open Go.ChangeShapes Go.WideShapes Go.ChangeAt Go.RowKit Mm Hh
set_option linter.unusedVariables false
set_option linter.unusedSimpArgs false

theorem five_set {W : World} {g t : Nat} {z0 z1 z2 z3 z4 : Value} (h : W.heap[g]? = some (.cells #[z0, z1, z2, z3, z4] t (0, 0))) (a b c d e : Value) (o : Obj) :
    ((((((W.setCell ⟨g, 0, none⟩ a).setCell ⟨g, 1, none⟩ b).setCell ⟨g, 2, none⟩ c).setCell ⟨g, 3, none⟩ d).setCell ⟨g, 4, none⟩ e).alloc o).heap[g]? = some (.cells #[a, b, c, d, e] t (0, 0)) := by
  have h0 := heap_setCell_same W g 0 _ _ a h
  have h1 := heap_setCell_same _ g 1 _ _ b h0
  have h2 := heap_setCell_same _ g 2 _ _ c h1
  have h3 := heap_setCell_same _ g 3 _ _ d h2
  have h4 := heap_setCell_same _ g 4 _ _ e h3
  exact (((Gr.refl _).alloc o).block _ (gs h4).1).trans h4
theorem ins_one (x0 x1 x2 x3 x4 : Int) : (#[.int .i64 x0, .int .i64 x1, .int .i64 x2, .int .i64 x3, .int .i32 x4] : Array Value).all (·.oneCell') = true := by
  refine all_oneCell_toArray (cs := [.int .i64 x0, .int .i64 x1, .int .i64 x2, .int .i64 x3, .int .i32 x4]) ?_
  intro u hu
  simp only [List.mem_cons, List.not_mem_nil, or_false] at hu
  rcases hu with rfl | rfl | rfl | rfl | rfl <;> rfl
theorem iI : (Try.prog.info? 98).map (·.size) = some 5 := by kernel_rfl
theorem results_cell_tmp1 {P : Program} {fn : Func} {p t : Tmp} {ty : TypeId} (h : fn.results = #[.cell p ty, .tmp t]) (tmps : Array Value) (w : World) (g : Nat) (tt : TypeId) (cs : Array Value) (fr : Nat × Nat) (d : TypeDesc)
    (v : Value) (hp : tmps.getD p undef = .pointer (some ⟨g, 0, none⟩)) (hv : tmps.getD t undef = v) (hg : w.heap[g]? = some (.cells cs tt fr))
    (hu : P.underlying ty = some d) (hd : (match d with | .struct _ | .array _ _ => true | _ => false) = true) (hi : (P.info? ty).map (·.size) = some cs.size) :
    (results fn tmps).run P w = .ok (.tuple #[.agg cs, v]) w := by
  subst hv
  have hp' : tmps[p]?.getD undef = .pointer (some ⟨g, 0, none⟩) := by simpa using hp
  simp [results, h, hp', asAddr, run_loadVar_row w g tt ty cs fr d hg hu hd hi]
end Go.Proofs.Ythgnfmbnbndeeac.Hf
/-
  What the method Step of package hart's core does: one step ('stp'), of every hart and memory.
-/
namespace Go.Proofs.Ythgnfmbnbndeeac.Hc
open Go.ChangeShapes Go.WideShapes Go.ChangeAt Go.RowKit Mm Hh
set_option linter.unusedVariables false
set_option linter.unusedSimpArgs false

variable {w w' : World} {base g : Nat} {h : Hv} {l : List UInt8} {os : List Int} {ss : List (Int × Int)}
theorem rd_bd (f x : Int) : 0 ≤ Dc.rdF f x ∧ Dc.rdF f x < 32 := by unfold Dc.rdF; split <;> omega
theorem r1_bd (f x : Int) : 0 ≤ Dc.rs1F f x ∧ Dc.rs1F f x < 32 := by unfold Dc.rs1F; split <;> omega
theorem r2_bd (f x : Int) : 0 ≤ Dc.rs2F f x ∧ Dc.rs2F f x < 32 := by unfold Dc.rs2F; split <;> omega
theorem imm_bd {v : Int} (f : Int) (h0 : 0 ≤ v) (h1 : v < 4294967296) : -2147483648 ≤ Dc.immF f v ∧ Dc.immF f v < 2147483648 := by
  unfold Dc.immF Wd.sg Dc.sgn
  repeat' split
  all_goals omega
theorem ret_eq {v v' : Value} (h : v = v') : Ending.returned v = .returned v' := by rw [h]

theorem held_store_row {P : Program} {md : Region.Mode} {ops : Array Oper} {Q : Exit → Act → World → Prop} {S : World → Prop} {fuel i : Nat} {listed : Array Bool} {o : Oper} {a : Act} (hr : Region.ready md ops listed = [i]) (hoi : ops[i]? = some o) (hg : o.guard = none) (ty : TypeId) (x y : Operand) (ho : o.op = .store ty x y)
    (g : Nat) (cells : Array Value) (hx : a.eval x = .pointer (some ⟨g, 0, none⟩)) (hy : a.eval y = .agg cells) (t : TypeId) (old : Array Value) (hb : w.heap[g]? = some (.cells old t (0, 0))) (hi : (P.info? ty).map (·.size) = some cells.size) (hold : old.size = cells.size) (h1 : cells.all (·.oneCell') = true)
    (hS : S (w.setRow g cells)) (h : wpAnyH P md ops Q S fuel (listed.setIfInBounds i true) (a.put o.dst undef) (w.setRow g cells)) : wpAnyH P md ops Q S (fuel + 1) listed a w :=
  wpAnyH_ready hr (by simp) (AllReadyH.cons hoi (fun K hK => step_store hg ty x y ho g cells hx hy t old hb hi hold h1 (hK.out _ _ hS fun _ => h)) AllReadyH.nil)
theorem at_world {p : World → Prop} {x : World} (F : World → Prop) (hF : F x) (h : ∀ y, F y → p y) : p x := h x hF
theorem heap_gr (g : Gr w w') {k : Nat} {x : Obj} (h : w.heap[k]? = some x) : w'.heap[k]? = some x := by
  rw [Below.block g k (gs h).1]; exact h
/-- A step, by what stands at the hart's PC. -/
theorem stp_no (hc : ¬ Bk.ftC l h.pc = 0) : stp h l = ⟨h.trap (Bk.ftC l h.pc), l, [], []⟩ := by
  unfold stp Bk.ftC at *
  by_cases ok : ldOk l 13 h.pc = true
  · rw [if_pos ok] at hc ⊢
    rw [if_pos ok]
    by_cases hd : Dc.dop (ldV l 13 h.pc) = 0
    · rw [if_pos hd]; unfold insW; rw [if_pos hd]
    · rw [if_neg hd] at hc; exact absurd rfl hc
  · rw [if_neg ok, if_neg ok]
theorem stp_yes (hc : Bk.ftC l h.pc = 0) : stp h l = ins h l (Dc.dop (ldV l 13 h.pc)) (Dc.rdF (Dc.frm (Dc.dop (ldV l 13 h.pc))) (ldV l 13 h.pc)) (Dc.rs1F (Dc.frm (Dc.dop (ldV l 13 h.pc))) (ldV l 13 h.pc)) (Dc.rs2F (Dc.frm (Dc.dop (ldV l 13 h.pc))) (ldV l 13 h.pc)) (Dc.immF (Dc.frm (Dc.dop (ldV l 13 h.pc))) (ldV l 13 h.pc)) := by
  unfold stp
  unfold Bk.ftC at hc
  by_cases ok : ldOk l 13 h.pc = true
  · rw [if_pos ok] at hc ⊢
    by_cases hd : Dc.dop (ldV l 13 h.pc) = 0
    · rw [if_pos hd] at hc; omega
    · unfold insW; rw [if_neg hd]
  · rw [if_neg ok] at hc; omega
end Go.Proofs.Ythgnfmbnbndeeac.Hc
/-
  A slice of bytes that is handed in: the bytes that it reads as, where they lie ('Mem'), and how many there can be.
-/
namespace Go.Proofs.Ythgnfmbnbndeeac.Mm
open Go.ChangeShapes Go.WideShapes Go.ChangeAt Go.RowKit
set_option linter.unusedVariables false

theorem cells5 : Try.prog.cellsOf 5 = 1 := by kernel_rfl
theorem bytes5 : Try.prog.bytesOf 5 = 1 := by kernel_rfl
theorem laidOut : laidOutB Try.prog = true := by kernel_rfl
theorem own : ownKnob Try.prog.godebug = none := by kernel_rfl

theorem bv_map {Z : List Int} (hz : ∀ n ∈ Z, (Lit.int .u8 n).wf = true) (t : Nat) (ht : t < Z.length) : bv (Z.map fun z => UInt8.ofNat z.toNat) t = Z.getD t 0 := by
  have hm : Z[t] ∈ Z := List.getElem_mem ht
  have hw := hz _ hm
  have hb : 0 ≤ Z[t] ∧ Z[t] ≤ 255 := by simpa [Lit.wf, IntKind.min, IntKind.max, IntKind.signed, IntKind.bits] using hw
  unfold bv
  simp only [List.getD, List.getElem?_map, List.getElem?_eq_getElem ht, Option.map_some, Option.getD_some]
  rw [UInt8.toNat_ofNat']
  omega

/-- An argument of type []byte, opened once, nil or not. -/
theorem open_mem {H : Type} {enc : TypeId × Value → H} {W : World} {fuel : Nat} {ao : Option Addr} {len cap : Nat} {d : DataW H} {p : List MemPlace}
    (hf : DataW.trod enc Try.prog W 0 (fun _ => true) true fuel 22 (Value.slice ao len cap).cells.toList = some (d, p)) :
    ∃ l : List UInt8, Mem W ao len l ∧ (d = .nil ∧ len = 0 ∨ ∃ zs sp, d = .slice (lits .u8 zs) sp ∧ zs.length = len) := by
  rcases open_ints Try.underlying22 Try.underlying5 cells5 hf with ⟨hcs, hx⟩ | ⟨a, len', cap', zs, hcs, _, hl, hm, hz, hx, hcell, hwz⟩
  · simp [Value.cells] at hcs
    obtain ⟨rfl, rfl, rfl⟩ := hcs
    simp only [Prod.mk.injEq] at hx
    obtain ⟨rfl, rfl⟩ := hx
    exact ⟨[], Mem.none _, Or.inl ⟨rfl, rfl⟩⟩
  · simp [Value.cells] at hcs
    obtain ⟨rfl, rfl, rfl⟩ := hcs
    simp only [Prod.mk.injEq] at hx
    obtain ⟨rfl, rfl⟩ := hx
    simp only [if_true] at hz
    refine ⟨(zs.take len).map fun z => UInt8.ofNat z.toNat, ⟨by simp; omega, (fun h => by cases h), fun ad h t ht => ?_⟩, Or.inr ⟨_, _, rfl, by simp; omega⟩⟩
    obtain rfl := Option.some.inj h
    rw [hcell t (by omega), bv_map (fun n hn => hwz n (List.mem_of_mem_take hn)) t (by simp; omega)]
    simp [List.getD, ht]
end Go.Proofs.Ythgnfmbnbndeeac.Mm
/-
  A hart that is handed in, opened.
-/
namespace Go.Proofs.Ythgnfmbnbndeeac.Hc
open Go.ChangeShapes Go.WideShapes Go.ChangeAt Go.RowKit Mm Hh
set_option linter.unusedVariables false
set_option linter.unusedSimpArgs false

variable {v : Value}
theorem c34 : Try.prog.cellsOf 48 = 37 := by kernel_rfl
theorem c32 : Try.prog.cellsOf 46 = 32 := by kernel_rfl
theorem c22 : Try.prog.cellsOf 45 = 1 := by kernel_rfl
theorem c4 : Try.prog.cellsOf 4 = 1 := by kernel_rfl
theorem c3 : Try.prog.cellsOf 3 = 1 := by kernel_rfl
theorem list6 {α : Type} {l : List α} (h : l.length = 6) : ∃ a b c d e f, l = [a, b, c, d, e, f] := by
  match l, h with
  | [a, b, c, d, e, f], _ => exact ⟨a, b, c, d, e, f, rfl⟩
theorem cut_one {l : List Value} {k : Nat} (h : (l.drop k).take 1 = [v]) : l[k]? = some v := by
  have := congrArg (fun x => x[0]?) h
  simpa using this
theorem u32_bd {n : Int} (h : (Lit.int .u32 n).wf = true) : 0 ≤ n ∧ n < 4294967296 := by
  have : 0 ≤ n ∧ n ≤ 4294967295 := by simpa [Lit.wf, IntKind.min, IntKind.max, IntKind.signed, IntKind.bits] using h
  omega
set_option maxRecDepth 100000 in
theorem open_hart {H : Type} {enc : TypeId × Value → H} {W : World} {base b0 : Nat} {sp : Nat → Bool} {held : Bool} {d : DataW H} {p : List MemPlace}
    (hv : Value.okWide Try.prog W .any base 48 v) (h : DataW.Trod enc Try.prog W b0 sp held 48 v d p) : ∃ hh : Hv, v = .agg (hA hh) ∧ hh.Ok := by
  obtain ⟨cs, rfl, hsz⟩ := okWide_struct Try.underlying48 hv
  rw [c34] at hsz
  obtain ⟨l⟩ := cs
  obtain ⟨fuel, hf⟩ := h
  obtain ⟨xs, m, rfl, hx, _, hlen, hel⟩ := DataW.trod_struct Try.underlying48 hf
  obtain ⟨y0, y1, y2, y3, y4, y5, rfl⟩ := list6 (l := xs) hlen
  clear hf hv hlen hx
  have k0 : DataW.trod enc Try.prog W b0 sp held m 46 ((l.drop 0).take (Try.prog.cellsOf 46)) = some y0 := hel 0 _ rfl
  have k1 : DataW.trod enc Try.prog W b0 sp held m 45 ((l.drop 32).take (Try.prog.cellsOf 45)) = some y1 := hel 1 _ rfl
  have k2 : DataW.trod enc Try.prog W b0 sp held m 4 ((l.drop 33).take (Try.prog.cellsOf 4)) = some y2 := hel 2 _ rfl
  have k3 : DataW.trod enc Try.prog W b0 sp held m 45 ((l.drop 34).take (Try.prog.cellsOf 45)) = some y3 := hel 3 _ rfl
  have k4 : DataW.trod enc Try.prog W b0 sp held m 3 ((l.drop 35).take (Try.prog.cellsOf 3)) = some y4 := hel 4 _ rfl
  have k5 : DataW.trod enc Try.prog W b0 sp held m 3 ((l.drop 36).take (Try.prog.cellsOf 3)) = some y5 := hel 5 _ rfl
  clear hel
  have hl : l.length = 37 := by simpa using hsz
  obtain ⟨pc, e1, _, w1⟩ := DataW.trod_int Try.underlying45 k1
  obtain ⟨hd, e2, _⟩ := DataW.trod_bool Try.underlying4 k2
  obtain ⟨ha, e3, _, w3⟩ := DataW.trod_int Try.underlying45 k3
  obtain ⟨st, e4, _, _⟩ := DataW.trod_int Try.underlying3 k4
  obtain ⟨ca, e5, _, _⟩ := DataW.trod_int Try.underlying3 k5
  obtain ⟨zs, m2, rfl, _, _, hzl, hze⟩ := DataW.trod_array Try.underlying46 k0
  clear k0 k1 k2 k3 k4 k5
  rw [c22] at e1 e3
  rw [c4] at e2
  rw [c3] at e4 e5
  have q1 := cut_one e1
  have q2 := cut_one e2
  have q3 := cut_one e3
  have q4 := cut_one e4
  have q5 := cut_one e5
  have qr : ∀ i, i < 32 → ∃ n, l[i]? = some (.int .u32 n) ∧ 0 ≤ n ∧ n < 4294967296 := fun i hi => by
    have ki := hze i hi
    rw [List.getElem?_eq_getElem (by omega)] at ki
    obtain ⟨n, en, _, wn⟩ := DataW.trod_int Try.underlying45 ki
    rw [c22, c32] at en
    refine ⟨n, ?_, u32_bd wn⟩
    have := congrArg (fun x => x[0]?) en
    simp only [List.getElem?_take, List.getElem?_drop] at this
    rw [if_pos (by omega), if_pos (by omega)] at this
    simpa using this
  clear hze e1 e2 e3 e4 e5
  have qn : ∀ i, i < 32 → l[i]? = some (.int .u32 (intOf (l.getD i undef))) ∧ 0 ≤ intOf (l.getD i undef) ∧ intOf (l.getD i undef) < 4294967296 := fun i hi => by
    obtain ⟨n, en, b⟩ := qr i hi
    simp only [List.getD, en, Option.getD_some, intOf]
    exact ⟨trivial, b⟩
  refine ⟨⟨(List.range 32).map fun i => intOf (l.getD i undef), pc, hd, ha, st, ca⟩, ?_, ?_⟩
  · have : l = hL ⟨(List.range 32).map fun i => intOf (l.getD i undef), pc, hd, ha, st, ca⟩ := by
      apply List.ext_getElem?
      intro i
      unfold hL
      by_cases hi : i < 32
      · rw [List.getElem?_append_left (by simpa using hi), (qn i hi).1]
        simp [hi]
      · rw [List.getElem?_append_right (by simp; omega)]
        simp only [List.length_map, List.length_range]
        by_cases h37 : i < 37
        · have : i = 32 ∨ i = 33 ∨ i = 34 ∨ i = 35 ∨ i = 36 := by omega
          rcases this with rfl | rfl | rfl | rfl | rfl
          · exact q1
          · exact q2
          · exact q3
          · exact q4
          · exact q5
        · rw [List.getElem?_eq_none (by omega), List.getElem?_eq_none (by simp; omega)]
    unfold hA
    rw [← this]
  · refine ⟨by simp, fun i => ?_, (u32_bd w1).1, (u32_bd w1).2, (u32_bd w3).1, (u32_bd w3).2⟩
    unfold rg
    simp only [List.getD, List.getElem?_map]
    by_cases hi : i < 32
    · rw [List.getElem?_eq_getElem (by simpa using hi)]
      simp only [List.getElem_range, Option.map_some, Option.getD_some]
      exact (qn i hi).2
    · rw [List.getElem?_eq_none (by simp; omega)]
      simp
end Go.Proofs.Ythgnfmbnbndeeac.Hc
/-
  What the condition on the package's tables gives.
-/
namespace Go.Proofs.Ythgnfmbnbndeeac.Hc
open Go.ChangeShapes Go.WideShapes Go.ChangeAt Go.RowKit Mm Hh
set_option linter.unusedVariables false
set_option linter.unusedSimpArgs false

def sizesL : List Int := [0, 0, 0, 0, 0, 0, 0, 0, 0, 0, 0, 0, 0, 0, 0, 0, 1, 2, 4]
def opersL : List Int := [0, 0, 0, 0, 0, 0, 0, 0, 0, 0, 0, 0, 0, 0, 0, 0, 0, 0, 0, 28, 31, 32, 33, 36, 37, 30, 34, 35]
end Go.Proofs.Ythgnfmbnbndeeac.Hc
/-
  What a hart of a board did, as the cells of a struct (api.Did); what Board's Work answers.
-/
namespace Go.Proofs.Ythgnfmbnbndeeac.Mc
open Go.ChangeShapes Go.WideShapes Go.ChangeAt Go.RowKit Mm Hh Hc
set_option linter.unusedVariables false
set_option linter.unusedSimpArgs false

/-- What a hart did: the hart, the memory, what came out, steps, where was stored (as slices). -/
structure Qv where
  h : Hv
  m : Value
  out : Value
  n : Int
  sto : Value
def qA (d : Qv) : Array Value := (hL d.h ++ [d.m, d.out, .int .i64 d.n, d.sto]).toArray
theorem qA_size {d : Qv} (o : d.h.Ok) : (qA d).size = 41 := by simp [qA, hL_len o]
theorem qA_get {d : Qv} (o : d.h.Ok) {i : Nat} (hi : i < 37) : (qA d)[i]? = (hL d.h)[i]? := by
  have := hL_len o
  unfold qA
  rw [List.getElem?_toArray, List.getElem?_append_left (by omega)]
theorem qA_fld {d : Qv} (o : d.h.Ok) (j : Nat) : (qA d)[37 + j]? = [d.m, d.out, .int .i64 d.n, d.sto][j]? := by
  unfold qA
  rw [List.getElem?_toArray, List.getElem?_append_right (by simp [hL_len o])]
  simp [hL_len o]
theorem one_qA {d : Qv} (h1 : d.m.oneCell' = true) (h2 : d.out.oneCell' = true) (h3 : d.sto.oneCell' = true) : (qA d).all (·.oneCell') = true := by
  refine all_oneCell_toArray ?_
  intro v hv
  simp only [hL, List.mem_append, List.mem_map, List.mem_cons, List.not_mem_nil, or_false] at hv
  rcases hv with (⟨n, _, rfl⟩ | rfl | rfl | rfl | rfl | rfl) | rfl | rfl | rfl | rfl <;> first | rfl | assumption
theorem fold_one (off : Nat) (v : Value) (cs : Array Value) : ((#[v] : Array Value).zipIdx.foldl (fun cs (x : Value × Nat) => cs.setIfInBounds (off + x.2) x.1) cs) = cs.setIfInBounds off v := rfl
theorem fold_hart {h : Hv} (o : h.Ok) (d : Qv) (od : d.h.Ok) : ((hA h).zipIdx.foldl (fun cs (x : Value × Nat) => cs.setIfInBounds (0 + x.2) x.1) (qA d)) = qA { d with h := h } := by
  have a1 := fold_set 0 (hA h) (qA d)
  have s1 := hA_size o
  have s2 := qA_size od
  apply Array.ext_getElem?
  intro k
  rw [a1.2 k]
  by_cases hk : k < 37
  · rw [if_pos (by omega), qA_get (d := { d with h := h }) o hk]
    simp [hA]
  · rw [if_neg (by omega)]
    obtain ⟨j, rfl⟩ : ∃ j, k = 37 + j := ⟨k - 37, by omega⟩
    rw [qA_fld od, qA_fld (d := { d with h := h }) o]
theorem qA_set {d : Qv} (o : d.h.Ok) (i : Nat) (v : Value) : (qA d).setIfInBounds (37 + i) v = (hL d.h ++ ([d.m, d.out, .int .i64 d.n, d.sto].set i v)).toArray := by
  have := hL_len o
  unfold qA
  simp only [List.setIfInBounds_toArray]
  rw [List.set_append_right _ _ (by omega), this, Nat.add_sub_cancel_left]
theorem built_five {P : Program} {t : TypeId} {it : TypeInfo} {z : Value} {fs : Array Field} {ps : List (Nat × Nat)} (hi : P.info? t = some it) (hu : P.underlying t = some (.struct fs)) (hz : it.zero = some z)
    (hp : fs.toList.mapM (fun f => (P.info? f.type).map fun i => (f.offset, i.size)) = some ps) {n : Nat} (p0 : ps.toArray[0]? = some (0, n)) (p1 : ps.toArray[1]? = some (n, 1)) (p2 : ps.toArray[2]? = some (n + 1, 1)) (p3 : ps.toArray[3]? = some (n + 2, 1)) (p4 : ps.toArray[4]? = some (n + 3, 1))
    (A : Array Value) (hA : A.size = n) (v1 v2 v3 v4 : Value) (h1 : v1.cells = #[v1]) (h2 : v2.cells = #[v2]) (h3 : v3.cells = #[v3]) (h4 : v4.cells = #[v4]) (hs : z.cells.size = n + 4) :
    P.built t [(0, .agg A), (1, v1), (2, v2), (3, v3), (4, v4)] = some ((((((A.zipIdx.foldl (fun cs (x : Value × Nat) => cs.setIfInBounds (0 + x.2) x.1) z.cells).setIfInBounds n v1).setIfInBounds (n + 1) v2).setIfInBounds (n + 2) v3).setIfInBounds (n + 3) v4)) := by
  unfold Program.built
  simp only [hi, hu, hz, hp]
  have a1 := (fold_set 0 A z.cells).1
  unfold Instr.fill
  simp only [p0]
  have e : (Value.agg A).cells = A := rfl
  rw [e, if_neg (by simp [hA]; omega)]
  unfold Instr.fill
  simp only [p1]
  rw [h1, if_neg (by rw [a1]; simp; omega), fold_one]
  unfold Instr.fill
  simp only [p2]
  rw [h2, if_neg (by rw [Array.size_setIfInBounds, a1]; simp; omega), fold_one]
  unfold Instr.fill
  simp only [p3]
  rw [h3, if_neg (by rw [Array.size_setIfInBounds, Array.size_setIfInBounds, a1]; simp; omega), fold_one]
  unfold Instr.fill
  simp only [p4]
  rw [h4, if_neg (by rw [Array.size_setIfInBounds, Array.size_setIfInBounds, Array.size_setIfInBounds, a1]; simp; omega), fold_one]
  unfold Instr.fill
  rfl
end Go.Proofs.Ythgnfmbnbndeeac.Mc
/-
  What Board's Work answers: what its hart does in so many steps ('wk').
-/
namespace Go.Proofs.Ythgnfmbnbndeeac.Mc
open Go.ChangeShapes Go.WideShapes Go.ChangeAt Go.RowKit Mm Hh Hc
set_option linter.unusedVariables false
set_option linter.unusedSimpArgs false

variable {ty : Nat} {rs : List Value}
theorem yieldsIf_build {P : Program} {ops : Array Oper} {S : World → Prop} {o : Oper} {a : Act} (hw : Region.wanted o (yielded ops a.tmps) = true) (t : TypeId) (parts : Array (Nat × Operand)) (ho : o.op = .build t parts)
    (cells : Array Value) (hf : P.built t (parts.map fun (i, x) => (i, a.eval x)).toList = some cells) : YieldsIf P ops S o (.agg cells) a :=
  .inl ⟨hw, fun w _ => by
    unfold execOp
    simp only [ho, Sem.run_bind, run_build w t _ _ hf, Result.andThen_ok]
    rfl⟩
theorem owns_cells {w : World} {base e sz n : Nat} {v : Value} {xs : List Value} (h : w.ownsRow base e sz v n xs) : v.cells = #[v] ∧ v.oneCell' = true ∧ ∃ a c, v = .slice a n c := by
  rcases h.2 with ⟨rfl, rfl⟩ | ⟨g, cap, _, rfl, _⟩
  · exact ⟨rfl, rfl, none, 0, rfl⟩
  · exact ⟨rfl, rfl, _, cap, rfl⟩
theorem heap3_new (w : World) (a b c : Obj) : (((w.alloc a).alloc b).alloc c).drew.heap[w.heap.size + 2]? = some c := by
  have := heap_alloc_new ((w.alloc a).alloc b) c
  have e : ((w.alloc a).alloc b).heap.size = w.heap.size + 2 := by simp
  rw [e] at this
  exact this
theorem heap3_gr (w : World) (a b c : Obj) : Gr w (((w.alloc a).alloc b).alloc c).drew := Gr.drew (Gr.alloc (Gr.alloc (Gr.alloc (Gr.refl _) _) _) _)
theorem heap3_old (w : World) (A : Array Value) (t : Nat) (b c : Obj) : (((w.alloc (.cells A t)).alloc b).alloc c).drew.heap[w.heap.size]? = some (.cells A t (0, 0)) := Hr.heap_of_gr (Gr.drew (Gr.alloc (Gr.refl _) _)) (heap_alloc2_old w _ _)
theorem heap3_mid (w : World) (a : Obj) (A : Array Value) (t : Nat) (c : Obj) : (((w.alloc a).alloc (.cells A t)).alloc c).drew.heap[w.heap.size + 1]? = some (.cells A t (0, 0)) := Hr.heap_of_gr (Gr.drew (Gr.alloc (Gr.refl _) _)) (heap_alloc2_new w _ _)
theorem Gr.toBelow {w w' : World} (h : Below w.heap.size w w') : Gr w w' := h
end Go.Proofs.Ythgnfmbnbndeeac.Mc
/-
  What Board's Lost answers: the harts that lose what they have reserved ('lostU').
-/
namespace Go.Proofs.Ythgnfmbnbndeeac.Mc
open Go.ChangeShapes Go.WideShapes Go.ChangeAt Go.RowKit Mm Hh Hc
set_option linter.unusedVariables false
set_option linter.unusedSimpArgs false

variable {ty : Nat} {rs : List Value}
def lsC (ls : List (Nat × Int)) : List Value := ls.flatMap fun q => [.int .i64 q.1, .int .u32 q.2]
theorem lsC_snoc (ls : List (Nat × Int)) (q : Nat × Int) : lsC (ls ++ [q]) = lsC ls ++ [.int .i64 q.1, .int .u32 q.2] := by simp [lsC]
theorem lsC_len (ls : List (Nat × Int)) : (lsC ls).length = ls.length * 2 := by
  induction ls with
  | nil => rfl
  | cons p r ih => simp only [lsC, List.flatMap_cons, List.length_append, List.length_cons, List.length_nil] at ih ⊢; omega
theorem lsC_get : ∀ (ls : List (Nat × Int)) (i : Nat) (q : Nat × Int), ls[i]? = some q → (lsC ls)[i * 2]? = some (.int .i64 q.1) ∧ (lsC ls)[i * 2 + 1]? = some (.int .u32 q.2)
  | [], i, q, h => by simp at h
  | p :: r, 0, q, h => by simp at h; subst h; exact ⟨rfl, rfl⟩
  | p :: r, i + 1, q, h => by
    have ih := lsC_get r i q (by simpa using h)
    have e : lsC (p :: r) = [.int .i64 p.1, .int .u32 p.2] ++ lsC r := rfl
    rw [e, List.getElem?_append_right (by simp; omega), List.getElem?_append_right (by simp; omega)]
    simp only [List.length_cons, List.length_nil]
    rw [show (i + 1) * 2 - (0 + 1 + 1) = i * 2 by omega, show (i + 1) * 2 + 1 - (0 + 1 + 1) = i * 2 + 1 by omega]
    exact ih
theorem two_lost (a b : Int) : ∀ u ∈ [Value.int .i64 a, Value.int .u32 b], u.oneCell' = true := by
  intro u hu
  simp only [List.mem_cons, List.not_mem_nil, or_false] at hu
  rcases hu with rfl | rfl <;> rfl
theorem infoL : (Try.prog.info? 63).map (fun i => (i.zero, i.size, i.bytes)) = some (some (.agg #[.int .i64 0, .int .u32 0]), 2, 16) := by kernel_rfl
end Go.Proofs.Ythgnfmbnbndeeac.Mc
/-
  append from whatever slice, nil or not; what a board keeps while its harts, its memory, what came out and its steps are set.
-/
namespace Go.Proofs.Ythgnfmbnbndeeac.Mc
open Go.ChangeShapes Go.WideShapes Go.ChangeAt Go.RowKit Mm Hh Hc
set_option linter.unusedVariables false
set_option linter.unusedSimpArgs false

variable {ty : Nat} {rs : List Value}
/-- The slice vx, nil or not, reads as m elements of sz cells: news. -/
def Src (w : World) (vx : Value) (m sz : Nat) (news : List Value) : Prop :=
  (vx = .slice none 0 0 ∧ m = 0 ∧ news = []) ∨ ∃ ad c, vx = .slice (some ad) m c ∧ news.length = m * sz ∧ ∀ j u, news[j]? = some u → w.cell? (ad.add j) = some u
theorem Src.own {w : World} {base e sz n : Nat} {v : Value} {xs : List Value} (h : w.ownsRow base e sz v n xs) : Src w v n sz xs := by
  obtain ⟨hl, h⟩ := h
  rcases h with ⟨rfl, rfl⟩ | ⟨g, cap, cur, rfl, _, hg, _, _, _, ht⟩
  · exact .inl ⟨rfl, rfl, List.eq_nil_of_length_eq_zero (by simpa using hl)⟩
  · refine .inr ⟨_, cap, rfl, hl, fun j u hj => ?_⟩
    rw [add_at, Nat.zero_add, cr hg]
    rw [← ht] at hj
    rw [List.getElem?_take] at hj
    split at hj
    · simpa using hj
    · cases hj
theorem Src.gr {w w' : World} {vx : Value} {m sz : Nat} {news : List Value} (h : Src w vx m sz news) (G : Gr w w') : Src w' vx m sz news := by
  rcases h with h | ⟨ad, c, e, hl, hc⟩
  · exact .inl h
  · exact .inr ⟨ad, c, e, hl, fun j u hj => (G.cell _ (World.block_lt_of_cell? w _ (hc j u hj))).trans (hc j u hj)⟩
section
variable {P : Program} {w : World} {base e size bytes n m : Nat} {i : TypeInfo} {z : Value} {t : TypeId}
theorem run_append_src (ty : TypeId) (h1 : P.underlying t = some (.slice e)) (h2 : P.info? e = some i) (h3 : i.zero = some z) (h4 : i.size = size) (h5 : i.bytes = bytes) (h6 : z.cells.size = size) (h7 : 0 < size)
    {v vx : Value} {olds news : List Value} (hown : w.ownsRow base e size v n olds) (hsrc : Src w vx m size news) (h1c : ∀ u ∈ news, u.oneCell' = true) (b1 : n + m ≤ maxLen) (b2 : (n + m) * bytes ≤ 140737488355328) (hbase : base ≤ w.heap.size) :
    ∃ v' w', (Builtin.append_ #[t, t] ty #[v, vx]).run P w = .ok v' w' ∧ w'.ownsRow base e size v' (n + m) (olds ++ news) ∧ w.grownBy w' v.ownBlock := by
  rcases hsrc with ⟨rfl, rfl, rfl⟩ | ⟨ad, c, rfl, hl, hc⟩
  · exact ⟨v, w, run_append_owned_none w base t ty e i size h1 h2 v n olds hown, by simpa using hown, ⟨rfl, rfl, rfl, Nat.le_refl _, fun _ _ _ => rfl⟩⟩
  · obtain ⟨v', w', hrun, r1, r2, _⟩ := run_append_own (P := P) w base t ty e i z size bytes h1 h2 h3 h4 h5 h6 h7 v n olds hown ad m c news hl hc h1c b1 b2 hbase
    exact ⟨v', w', hrun, r1, r2⟩
theorem step_append_src {ops : Array Oper} {o : Oper} {a : Act} {K : Act → World → Prop} {Q : Exit → Act → World → Prop} {E : Prop}
    (hg : o.guard = none) (s x : Operand) (hop : o.op = Op.call { callee := Callee.builtin Builtin.append, args := #[s, x], argTypes := #[t, t] })
    (h1 : P.underlying t = some (.slice e)) (h2 : P.info? e = some i) (h3 : i.zero = some z) (h4 : i.size = size) (h5 : i.bytes = bytes) (h6 : z.cells.size = size) (h7 : 0 < size)
    {v vx : Value} {olds news : List Value} (hs : a.eval s = v) (hx : a.eval x = vx) (hown : w.ownsRow base e size v n olds) (hsrc : Src w vx m size news) (h1c : ∀ u ∈ news, u.oneCell' = true) (b1 : n + m ≤ maxLen) (b2 : (n + m) * bytes ≤ 140737488355328) (hbase : base ≤ w.heap.size)
    (hK : ∀ v' w', w'.ownsRow base e size v' (n + m) (olds ++ news) → w.grownBy w' v.ownBlock → K (a.put o.dst v') w') :
    if Region.wanted o (yielded ops a.tmps) = true then Oper.wp P o a w K Q else E := by
  have hw : Region.wanted o (yielded ops a.tmps) = true := by simp [Region.wanted, hg]
  rw [if_pos hw]
  obtain ⟨v', w', hrun, r1, r2⟩ := run_append_src (P := P) o.type h1 h2 h3 h4 h5 h6 h7 hown hsrc h1c b1 b2 hbase
  unfold Oper.wp
  simp [execOp, hop, resolve, invoke, builtin, hs, hx, hrun, Result.andThen]
  exact hK v' w' r1 r2
theorem wpList_append_src {ops : Array Oper} {rest : List Oper} {o : Oper} {a : Act} {Q : Exit → Act → World → Prop}
    (hg : o.guard = none) (s x : Operand) (hop : o.op = Op.call { callee := Callee.builtin Builtin.append, args := #[s, x], argTypes := #[t, t] })
    (h1 : P.underlying t = some (.slice e)) (h2 : P.info? e = some i) (h3 : i.zero = some z) (h4 : i.size = size) (h5 : i.bytes = bytes) (h6 : z.cells.size = size) (h7 : 0 < size)
    {v vx : Value} {olds news : List Value} (hs : a.eval s = v) (hx : a.eval x = vx) (hown : w.ownsRow base e size v n olds) (hsrc : Src w vx m size news) (h1c : ∀ u ∈ news, u.oneCell' = true) (b1 : n + m ≤ maxLen) (b2 : (n + m) * bytes ≤ 140737488355328) (hbase : base ≤ w.heap.size)
    (hK : ∀ v' w', w'.ownsRow base e size v' (n + m) (olds ++ news) → w.grownBy w' v.ownBlock → wpList P ops Q rest (a.put o.dst v') w') : wpList P ops Q (o :: rest) a w := by
  refine wpList_plain hg fun K hk => ?_
  obtain ⟨v', w', hrun, r1, r2⟩ := run_append_src (P := P) o.type h1 h2 h3 h4 h5 h6 h7 hown hsrc h1c b1 b2 hbase
  unfold Oper.wp
  simp [execOp, hop, resolve, invoke, builtin, hs, hx, hrun, Result.andThen]
  exact hk _ _ (hK v' w' r1 r2)
end
theorem step_store_mid {P : Program} {ops : Array Oper} {o : Oper} {a : Act} {w : World} {K : Act → World → Prop} {Q : Exit → Act → World → Prop} {E : Prop} (hg : o.guard = none) (ty : TypeId) (x y : Operand) (ho : o.op = .store ty x y)
    (b j : Nat) (cells : Array Value) (hx : a.eval x = .pointer (some ⟨b, j, none⟩)) (hy : a.eval y = .agg cells) (ht : w.there b j cells.size) (hi : (P.info? ty).map (·.size) = some cells.size) (h1 : cells.all (·.oneCell') = true)
    (h : K (a.put o.dst undef) (w.setCells b j cells.toList)) : if Region.wanted o (yielded ops a.tmps) = true then Oper.wp P o a w K Q else E := by
  rw [if_pos (by simp [Region.wanted, hg])]
  exact wp_store_mid ty x y ho b j cells hx hy ht hi h1 h
theorem held_store_mid {P : Program} {md : Region.Mode} {ops : Array Oper} {Q : Exit → Act → World → Prop} {S : World → Prop} {fuel i : Nat} {listed : Array Bool} {o : Oper} {a : Act} {w : World} (hr : Region.ready md ops listed = [i]) (hoi : ops[i]? = some o) (hg : o.guard = none) (ty : TypeId) (x y : Operand) (ho : o.op = .store ty x y)
    (b j : Nat) (cells : Array Value) (hx : a.eval x = .pointer (some ⟨b, j, none⟩)) (hy : a.eval y = .agg cells) (ht : w.there b j cells.size) (hi : (P.info? ty).map (·.size) = some cells.size) (h1 : cells.all (·.oneCell') = true)
    (hS : S (w.setCells b j cells.toList)) (h : wpAnyH P md ops Q S fuel (listed.setIfInBounds i true) (a.put o.dst undef) (w.setCells b j cells.toList)) : wpAnyH P md ops Q S (fuel + 1) listed a w :=
  wpAnyH_ready hr (by simp) (AllReadyH.cons hoi (fun K hK => step_store_mid hg ty x y ho b j cells hx hy ht hi h1 (hK.out _ _ hS fun _ => h)) AllReadyH.nil)
theorem words_one (os : List Int) : ∀ u ∈ os.map (Value.int .u32), u.oneCell' = true := by
  intro u hu
  obtain ⟨b, _, rfl⟩ := List.mem_map.1 hu
  rfl
theorem infoW : (Try.prog.info? 45).map (fun i => (i.zero, i.size, i.bytes)) = some (some (Value.int .u32 0), 1, 4) := by kernel_rfl

/-- Only the harts' block has turned: what is of another type is as it was. -/
theorem ch_keep {w w' : World} {gh : Nat} {hs : List Hv} (R : HRow w gh hs) (q : Ch gh w w') {t : Nat} (ht : t ≠ 48) {k : Nat} {o : Array Value} {f : Nat × Nat} (hk : w.heap[k]? = some (.cells o t f)) : w'.heap[k]? = w.heap[k]? := by
  obtain ⟨rest, e⟩ := R.row
  exact q.block k (gs hk).1 (fun h => ne_of_types hk e ht (by injection h))
theorem Bw.ch {w w' : World} {base g gh hc : Nat} {M O : Value} {s : Sh} (B : Bw ty rs w base g M gh hc O s) (q : Ch gh w w') {hs : List Hv} (R : HRow w' gh hs) (hl : hs.length = s.hs.length) : Bw ty rs w' base g M gh hc O ⟨hs, s.m, s.out, s.steps⟩ :=
  ⟨B.t1, B.t2, B.t3, B.bg, by show w'.heap[g]? = some (.cells (M :: .slice (some ⟨gh, 0, none⟩) hs.length hc :: O :: .int .i64 s.steps :: rs).toArray _ _); rw [hl]; exact (ch_keep B.row q B.t3 B.blk).trans B.blk, B.mem.to fun k o f hk => ch_keep B.row q (by decide) hk, B.bh, R, owns_to B.out fun k o f hk => ch_keep B.row q (by decide) hk⟩
theorem Ch.ofGr {g : Nat} {w w' : World} (G : Gr w w') : Ch g w w' := (Ch.refl g w).gr G
theorem Ch.setCells {g : Nat} {a w : World} (h : Ch g a w) : ∀ (vs : List Value) (o : Nat), Ch g a (w.setCells g o vs)
  | [], o => h
  | v :: r, o => by rw [World.setCells]; exact Ch.setCells (h.setCell o v) r (o + 1)
theorem Bw.fz {w : World} {base g gh hc : Nat} {M O : Value} {s : Sh} (B : Bw ty rs w base g M gh hc O s) (i : Nat) : w.frozen? ⟨g, i, none⟩ = false := fzr B.blk
theorem Bw.base_le {w : World} {base g gh hc : Nat} {M O : Value} {s : Sh} (B : Bw ty rs w base g M gh hc O s) : base ≤ w.heap.size := Nat.le_trans B.bg (Nat.le_of_lt (gs B.blk).1)
/-- A cell of the board's own block set: what is of another type is as it was. -/
theorem bw_other {w : World} {base g gh hc : Nat} {M O : Value} {s : Sh} (B : Bw ty rs w base g M gh hc O s) (i : Nat) (v : Value) {t : Nat} (ht : t ≠ ty) {k : Nat} {o : Array Value} {f : Nat × Nat} (hk : w.heap[k]? = some (.cells o t f)) : (w.setCell ⟨g, i, none⟩ v).heap[k]? = w.heap[k]? :=
  hso (by exact ne_of_types hk B.blk ht)
theorem HRow.to {w w' : World} {g : Nat} {hs : List Hv} (r : HRow w g hs) (h : ∀ (k : Nat) (o : Array Value) (f : Nat × Nat), w.heap[k]? = some (.cells o 48 f) → w'.heap[k]? = w.heap[k]?) : HRow w' g hs := by
  obtain ⟨rest, e⟩ := r.row
  exact ⟨r.ok, rest, (h _ _ _ e).trans e⟩
theorem Bw.setM {w : World} {base g gh hc : Nat} {M O : Value} {s : Sh} (B : Bw ty rs w base g M gh hc O s) {M' : Value} {m' : List UInt8} (h : Own w 0 M' m') : Bw ty rs (w.setCell ⟨g, 0, none⟩ M') base g M' gh hc O ⟨s.hs, m', s.out, s.steps⟩ :=
  ⟨B.t1, B.t2, B.t3, B.bg, by rw [hss B.blk]; simp, h.to fun k o f hk => bw_other B _ _ B.t1.symm hk, B.bh, B.row.to fun k o f hk => bw_other B _ _ B.t3.symm hk, owns_to B.out fun k o f hk => bw_other B _ _ B.t2.symm hk⟩
theorem Bw.setN {w : World} {base g gh hc : Nat} {M O : Value} {s : Sh} (B : Bw ty rs w base g M gh hc O s) (n' : Nat) : Bw ty rs (w.setCell ⟨g, 3, none⟩ (.int .i64 n')) base g M gh hc O ⟨s.hs, s.m, s.out, n'⟩ :=
  ⟨B.t1, B.t2, B.t3, B.bg, by rw [hss B.blk]; simp, B.mem.to fun k o f hk => bw_other B _ _ B.t1.symm hk, B.bh, B.row.to fun k o f hk => bw_other B _ _ B.t3.symm hk, owns_to B.out fun k o f hk => bw_other B _ _ B.t2.symm hk⟩
/-- A cell behind the board set. -/
theorem Bw.setR {w : World} {base g gh hc : Nat} {M O : Value} {s : Sh} (B : Bw ty rs w base g M gh hc O s) (i : Nat) (v : Value) : Bw ty (rs.set i v) (w.setCell ⟨g, 4 + i, none⟩ v) base g M gh hc O s :=
  ⟨B.t1, B.t2, B.t3, B.bg, by rw [hss B.blk, List.setIfInBounds_toArray, Nat.add_comm]; rfl, B.mem.to fun k o f hk => bw_other B _ _ B.t1.symm hk, B.bh, B.row.to fun k o f hk => bw_other B _ _ B.t3.symm hk, owns_to B.out fun k o f hk => bw_other B _ _ B.t2.symm hk⟩
/-- What a board's method leaves: of what lay below 'base' nothing has turned, nor any block but those of type ty, of harts or of words. -/
structure Fe (ty : Nat) (base : Nat) (w w' : World) : Prop where
  below : Below base w w'
  keep : ∀ (k : Nat) (o : Obj), w.heap[k]? = some o → (∀ q f, ¬ o = .cells q ty f) → (∀ q f, ¬ o = .cells q 48 f) → (∀ q f, ¬ o = .cells q 45 f) → w'.heap[k]? = some o
theorem Fe.refl (base : Nat) (w : World) : Fe ty base w w := ⟨Below.refl _ _, fun _ _ h _ _ _ => h⟩
theorem Fe.trans {base : Nat} {a b c : World} (h : Fe ty base a b) (k : Fe ty base b c) : Fe ty base a c := ⟨h.below.trans k.below, fun i o e t1 t2 t3 => k.keep i o (h.keep i o e t1 t2 t3) t1 t2 t3⟩
theorem Fe.ofGr {base : Nat} {w w' : World} (G : Gr w w') (hb : base ≤ w.heap.size) : Fe ty base w w' := ⟨Below.mono G hb, fun i o e _ _ _ => (G.block i (gs e).1).trans e⟩
theorem Fe.gr {base : Nat} {a w w' : World} (h : Fe ty base a w) (G : Gr w w') (hb : base ≤ w.heap.size) : Fe ty base a w' := h.trans (Fe.ofGr G hb)
theorem Fe.drew {base : Nat} {a w : World} (h : Fe ty base a w) : Fe ty base a w.drew := ⟨h.below.drew, h.keep⟩
theorem Fe.ch {base : Nat} {w w' : World} {gh : Nat} {hs : List Hv} (R : HRow w gh hs) (q : Ch gh w w') (hg : base ≤ gh) (hb : base ≤ w.heap.size) : Fe ty base w w' := ⟨q.below hg hb, fun i o e _ t2 _ => by
  obtain ⟨rest, e2⟩ := R.row
  refine (q.block i (gs e).1 (fun h => ?_)).trans e
  injection h with h
  subst h
  rw [e2] at e
  injection e with e
  exact t2 _ _ e.symm⟩
theorem Fe.setCell {base : Nat} {a w : World} {g : Nat} {Y : Array Value} {f : Nat × Nat} (h : Fe ty base a w) (hy : w.heap[g]? = some (.cells Y ty f)) (hg : base ≤ g) (i : Nat) (v : Value) : Fe ty base a (w.setCell ⟨g, i, none⟩ v) := ⟨Below.setCell h.below (by exact hg) _, fun k o e t1 t2 t3 => by
  have e2 := h.keep k o e t1 t2 t3
  rw [hso (by
    show k ≠ g
    intro ek
    subst ek
    rw [hy] at e2
    injection e2 with e2
    exact t1 _ _ e2.symm)]
  exact e2⟩
theorem Fe.grown {base : Nat} {w w' : World} {O : Value} {n : Nat} {xs : List Value} (hO : w.ownsRow base 45 1 O n xs) (q : w.grownBy w' O.ownBlock) (hb : base ≤ w.heap.size) : Fe ty base w w' := ⟨(Below.refl base w).grown q hb fun k e => (hO.lt k e).1, fun k o e _ _ t3 => (q.block k (gs e).1 (fun h => by
    rcases hO.2 with ⟨h0, _⟩ | ⟨g', cap, cur, hv, _, hg, _⟩
    · rw [h0] at h; cases h
    · rw [hv] at h
      injection h with h
      subst h
      rw [hg] at e
      injection e with e
      exact t3 _ _ e.symm)).trans e⟩
/-- A block of cells of another type stays. -/
theorem Fe.cells {base : Nat} {w w' : World} (h : Fe ty base w w') {k : Nat} {q : Array Value} {t : Nat} {f : Nat × Nat} (e : w.heap[k]? = some (.cells q t f)) (t1 : t ≠ ty) (t2 : t ≠ 48) (t3 : t ≠ 45) : w'.heap[k]? = w.heap[k]? :=
  (h.keep k _ e (fun _ _ c => t1 (by injection c)) (fun _ _ c => t2 (by injection c)) (fun _ _ c => t3 (by injection c))).trans e.symm
/-- What came out, appended to: behind the append, and behind the store. -/
theorem grown_keep {w w' : World} {base : Nat} {O : Value} {n : Nat} {xs : List Value} {e sz : Nat} (hO : w.ownsRow base e sz O n xs) (q : w.grownBy w' O.ownBlock) {t : Nat} (ht : t ≠ e) {k : Nat} {o : Array Value} {f : Nat × Nat} (hk : w.heap[k]? = some (.cells o t f)) : w'.heap[k]? = w.heap[k]? :=
  q.block k (gs hk).1 (fun h => by
    rcases hO.2 with ⟨h0, _⟩ | ⟨g', cap, cur, hv, _, hg, _⟩
    · rw [h0] at h; cases h
    · rw [hv] at h
      injection h with h
      exact ne_of_types hk hg ht h)
theorem Bw.grown {w w' : World} {base g gh hc : Nat} {M O : Value} {s : Sh} (B : Bw ty rs w base g M gh hc O s) (q : w.grownBy w' O.ownBlock) {v : Value} {os : List Int} (ho : w'.ownsRow base 45 1 v os.length (os.map (Value.int .u32))) :
    w'.cell? ⟨g, 2, none⟩ = some O ∧ w'.frozen? ⟨g, 2, none⟩ = false ∧ Bw ty rs (w'.setCell ⟨g, 2, none⟩ v) base g M gh hc v ⟨s.hs, s.m, os, s.steps⟩ ∧ Fe ty base w (w'.setCell ⟨g, 2, none⟩ v) := by
  have st : ∀ {t : Nat}, t ≠ 45 → ∀ {k : Nat} {o : Array Value} {f : Nat × Nat}, w.heap[k]? = some (.cells o t f) → w'.heap[k]? = w.heap[k]? := fun ht _ _ _ hk => grown_keep B.out q ht hk
  have hb := (st B.t2 B.blk).trans B.blk
  have ne : ∀ {t : Nat}, t ≠ ty → ∀ {k : Nat} {o : Array Value} {f : Nat × Nat}, w'.heap[k]? = some (.cells o t f) → (w'.setCell ⟨g, 2, none⟩ v).heap[k]? = w'.heap[k]? := fun ht _ _ _ hk => hso (by exact ne_of_types hk hb ht)
  have two : ∀ {t : Nat}, t ≠ ty → t ≠ 45 → ∀ {k : Nat} {o : Array Value} {f : Nat × Nat}, w.heap[k]? = some (.cells o t f) → (w'.setCell ⟨g, 2, none⟩ v).heap[k]? = w.heap[k]? := fun h1 h2 _ _ _ hk => by
    have e := st h2 hk
    exact (ne h1 (e.trans hk)).trans e
  refine ⟨(cr hb).trans (by simp), fzr hb, ⟨B.t1, B.t2, B.t3, B.bg, by rw [hss hb]; simp, B.mem.to fun k o f hk => two B.t1.symm (by decide) hk, B.bh, B.row.to fun k o f hk => two B.t3.symm (by decide) hk, owns_to ho fun k o f hk => ne B.t2.symm hk⟩, ?_⟩
  exact Fe.setCell (Fe.grown B.out q B.base_le) hb B.bg _ _
end Go.Proofs.Ythgnfmbnbndeeac.Mc
/-
  What Board's Take does: what a hart did is made true ('tk').
-/
namespace Go.Proofs.Ythgnfmbnbndeeac.Mc
open Go.ChangeShapes Go.WideShapes Go.ChangeAt Go.RowKit Mm Hh Hc
set_option linter.unusedVariables false
set_option linter.unusedSimpArgs false

variable {ty : Nat} {rs : List Value}
theorem rgs_get : ∀ (ss : List (Int × Int)) (i : Nat) (p : Int × Int), ss[i]? = some p → (rgs ss)[i * 2]? = some (.int .u32 p.1) ∧ (rgs ss)[i * 2 + 1]? = some (.int .u32 (Wd.lo (p.1 + p.2)))
  | [], i, q, h => by simp at h
  | p :: r, 0, q, h => by simp at h; subst h; exact ⟨rfl, rfl⟩
  | p :: r, i + 1, q, h => by
    have ih := rgs_get r i q (by simpa using h)
    have e : rgs (p :: r) = [.int .u32 p.1, .int .u32 (Wd.lo (p.1 + p.2))] ++ rgs r := rfl
    rw [e, List.getElem?_append_right (by simp; omega), List.getElem?_append_right (by simp; omega)]
    simp only [List.length_cons, List.length_nil]
    rw [show (i + 1) * 2 - (0 + 1 + 1) = i * 2 by omega, show (i + 1) * 2 + 1 - (0 + 1 + 1) = i * 2 + 1 by omega]
    exact ih
theorem take_snoc {α : Type} {l : List α} {i : Nat} {x : α} (h : l[i]? = some x) : l.take (i + 1) = l.take i ++ [x] := by
  rw [List.take_add_one, h]
  rfl
theorem drops_snoc (hs : List Hv) {U : List (Nat × Int)} {m : Nat} {q : Nat × Int} (h : U[m]? = some q) : drops hs (U.take (m + 1)) = (drops hs (U.take m)).set q.1 (((drops hs (U.take m)).getD q.1 hN).hold false 0) := by
  rw [take_snoc h, drops_app]
  rfl
theorem lose_snoc (k : Nat) {ss : List (Int × Int)} {i : Nat} {p : Int × Int} (h : ss[i]? = some p) (hs : List Hv) : lose k (ss.take (i + 1)) hs = lose k [p] (lose k (ss.take i) hs) := by
  rw [take_snoc h, lose_app]
theorem cell_sa (w : World) (p : Addr) (v a b : Value) (t : Nat) : ((w.setCell p v).alloc (.cells #[a, b] t)).drew.cell? ⟨w.heap.size, 0, none⟩ = some a := by
  have := heap_alloc_new (w.setCell p v) (.cells #[a, b] t)
  have e : (w.setCell p v).heap.size = w.heap.size := by simp
  rw [e] at this
  exact cell_of_row _ _ _ _ _ (0, 0) this
theorem cell_saa (w : World) (p p' : Addr) (v v' a b : Value) (t : Nat) : (((w.setCell p v).setCell p' v').alloc (.cells #[a, b] t)).drew.drew.cell? ⟨w.heap.size, 0, none⟩ = some a := by
  have := heap_alloc_new ((w.setCell p v).setCell p' v') (.cells #[a, b] t)
  have e : ((w.setCell p v).setCell p' v').heap.size = w.heap.size := by simp
  rw [e] at this
  exact cell_of_row _ _ _ _ _ (0, 0) this
end Go.Proofs.Ythgnfmbnbndeeac.Mc
/-
  What package machine's Run answers: how a machine runs ('play'), or what is wrong.
-/
namespace Go.Proofs.Ythgnfmbnbndeeac.Mc
open Go.ChangeShapes Go.WideShapes Go.ChangeAt Go.RowKit Mm Hh Hc
set_option linter.unusedVariables false
set_option linter.unusedSimpArgs false

theorem wk_ok {m : Nat} : ∀ (n : Nat) {x : Wk}, WOk x m → WOk (wk x n) m ∧ (wk x n).n ≤ x.n + n
  | 0, x, o => ⟨o, Nat.le_refl _⟩
  | n + 1, x, o => by
    unfold wk
    split
    · rename_i h
      have := wk_ok n (wk1_ok o h)
      refine ⟨this.1, ?_⟩
      have h2 := this.2
      have : (wk1 x).n = x.n + 1 := rfl
      omega
    · exact ⟨o, by omega⟩
/-- What came out is no more than the steps; these are at most t. -/
def Few (s : Sh) (t : Nat) : Prop := s.out.length ≤ s.steps ∧ s.steps ≤ t
theorem tk_few {s : Sh} {t m n k : Nat} {x : Wk} (f : Few s t) (o : WOk x m) (h : x.n ≤ n) : Few (tk s k x) (t + n) := by
  unfold Few tk at *
  have := o.out
  simp only [List.length_append]
  omega
/-- A script of picks that may be, as numbers. -/
def nums (ps : List (Int × Int)) : List (Nat × Nat) := ps.map fun p => (p.1.toNat, p.2.toNat)
theorem nums_get {ps : List (Int × Int)} {j : Nat} {p : Int × Int} (h : ps[j]? = some p) : (nums ps).take (j + 1) = (nums ps).take j ++ [(p.1.toNat, p.2.toNat)] := by
  refine take_snoc ?_
  unfold nums
  rw [List.getElem?_map, h]
  rfl
theorem wrong_ok {m : List UInt8} {hs : List Hv} {ps : List (Int × Int)} (h : wrong m hs ps = 0) : m.length ≤ 4096 ∧ 1 ≤ hs.length ∧ hs.length ≤ 4 ∧ (∀ h ∈ hs, may h = true) ∧ ps.length ≤ 300 ∧ ∀ p ∈ ps, 0 ≤ p.1 ∧ p.1 < hs.length ∧ 0 ≤ p.2 ∧ p.2 ≤ 400 := by
  unfold wrong at h
  split at h
  · omega
  split at h
  · omega
  split at h
  · omega
  split at h
  · omega
  rename_i h1 h2 h3 h4
  refine ⟨by omega, by omega, by omega, ?_, by omega, fun p hp => ?_⟩
  · simpa using h2
  · have := (List.all_eq_true.1 (by simpa using h4)) p hp
    simpa [pickOk] using this
theorem HRow.lt {w : World} {g : Nat} {hs : List Hv} (r : HRow w g hs) : g < w.heap.size := by
  obtain ⟨_, e⟩ := r.row; exact (Array.getElem?_eq_some_iff.1 e).1
theorem HRow.hs {w : World} {g c : Nat} {hs : List Hv} (r : HRow w g hs) (h : hs.length = c) : Hs w (some ⟨g, 0, none⟩) c hs :=
  ⟨h, r.ok, fun _ => ⟨g, 0, rfl, r.lt, fun i q hq => by rw [Nat.zero_add]; exact r.range hq⟩⟩
/-- In world w, the struct v (api.Shown) reads as S: a machine of c harts and mn bytes, what came out, steps. -/
def Shn (w : World) (v : Value) (c mn : Nat) (S : Sh) : Prop := ∃ ma mc ha hc oa oc, v = .agg #[.slice ma mn mc, .slice ha c hc, .slice oa S.out.length oc, .int .i64 S.steps] ∧ Mem w ma mn S.m ∧ (ma = none → mc = 0) ∧ Hs w ha c S.hs ∧ Wm w oa S.out.length S.out ∧ (oa = none → oc = 0)
theorem Shn.of {w w' : World} {v : Value} {c mn : Nat} {S : Sh} (h : Shn w v c mn S) (G : Gr w w') : Shn w' v c mn S := by
  obtain ⟨ma, mc, ha, hc, oa, oc, e, h1, h2, h3, h4, h5⟩ := h
  exact ⟨ma, mc, ha, hc, oa, oc, e, h1.of G, h2, h3.of G, h4.of G, h5⟩
theorem own_cap {w : World} {a : Option Addr} {n c : Nat} {l : List UInt8} (h : Own w 0 (.slice a n c) l) : a = none → c = 0 := by
  rintro rfl
  rcases h with ⟨h, _⟩ | ⟨k, cap, h, _⟩
  · injection h
  · cases h
theorem owns_cap {w : World} {base e sz n c : Nat} {a : Option Addr} {xs : List Value} (h : w.ownsRow base e sz (.slice a n c) n xs) : a = none → c = 0 := by
  rintro rfl
  rcases h.2 with ⟨h, _⟩ | ⟨g, cap, cur, h, _⟩
  · injection h
  · cases h
theorem gr_trans2 {a b c : World} {n : Nat} (h : Gr a b) (k : Below n b c) (hn : a.heap.size ≤ n) : Gr a c := Below.trans h (Below.mono k hn)
theorem shn_own {w : World} {va oa : Option Addr} {vc gh hc oc c mn base : Nat} {S : Sh} (h1 : Own w 0 (.slice va mn vc) S.m) (hm : S.m.length = mn) (h2 : HRow w gh S.hs) (hl : S.hs.length = c) (h3 : w.ownsRow base 45 1 (.slice oa S.out.length oc) S.out.length (S.out.map (Value.int .u32))) :
    Shn w (.agg #[.slice va mn vc, .slice (some ⟨gh, 0, none⟩) c hc, .slice oa S.out.length oc, .int .i64 S.steps]) c mn S := by
  obtain ⟨a, b, e, M⟩ := h1.mem
  obtain ⟨a2, b2, e2, W⟩ := wm_own rfl h3
  injection e with e3 e4 e5
  injection e2 with e6 e7 e8
  subst e3 e6
  rw [hm] at M
  exact ⟨_, _, _, _, _, _, rfl, M, own_cap h1, h2.hs hl, W, owns_cap h3⟩
theorem iS : (Try.prog.info? 60).map (·.size) = some 4 := by kernel_rfl

end Go.Proofs.Ythgnfmbnbndeeac.Mc
