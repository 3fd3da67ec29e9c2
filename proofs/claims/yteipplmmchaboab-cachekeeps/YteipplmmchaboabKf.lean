/-
  Ranges that are handed in; a cache that is written over: what stays as it was.
-/
import Derived.Test.YteipplmmchaboabKk
import Derived.Test.YteipplmmchaboabHk
import Derived.Deep.RegionHeld3
namespace Go.Proofs.Yteipplmmchaboab.Kc
open Go.ChangeShapes Go.WideShapes Go.ChangeAt Go.RowKit Mm Ts Hc
set_option linter.unusedVariables false
set_option linter.unusedSimpArgs false

/-- In world w, the slice at ao of n elements reads as these ranges. -/
structure Rs (w : World) (ao : Option Addr) (n : Nat) (rs : List (Int × Int)) : Prop where
  len : rs.length = n
  wd : ∀ p ∈ rs, (0 ≤ p.1 ∧ p.1 < 4294967296) ∧ (0 ≤ p.2 ∧ p.2 < 4294967296)
  spot : 0 < n → ∃ b o, ao = some ⟨b, o, none⟩ ∧ b < w.heap.size ∧ ∀ j p, rs[j]? = some p → w.cell? ⟨b, o + j * 2, none⟩ = some (.int .u32 p.1) ∧ w.cell? ⟨b, o + j * 2 + 1, none⟩ = some (.int .u32 p.2)
theorem Rs.of {w w' : World} {ao : Option Addr} {n : Nat} {rs : List (Int × Int)} (h : Rs w ao n rs) (g : Gr w w') : Rs w' ao n rs :=
  ⟨h.len, h.wd, fun hn => by
    obtain ⟨b, o, e, hb, hc⟩ := h.spot hn
    refine ⟨b, o, e, Nat.lt_of_lt_of_le hb g.size, fun j p hj => ?_⟩
    obtain ⟨h0, h1⟩ := hc j p hj
    exact ⟨(g.cell _ (by exact hb)).trans h0, (g.cell _ (by exact hb)).trans h1⟩⟩
/-- A cache's own block, of four cells. -/
def cCell (room : Int) (a : Option Addr) (n c : Nat) (pu sl : Int) : Array Value := #[.int .i64 room, .slice a n c, .int .i64 pu, .int .i64 sl]
/-- Cells that are no cache's are none of that block's. -/
theorem ne_cache {w : World} {g b o : Nat} {room pu sl : Int} {a : Option Addr} {n c : Nat} {t : Nat} {v : Value} (hg : w.heap[g]? = some (.cells (cCell room a n c pu sl) t (0, 0))) (h : w.cell? ⟨b, o, none⟩ = some v) (hv : (∀ x, ¬ v = .int .i64 x) ∧ (∀ a n c, ¬ v = .slice a n c)) : b ≠ g := fun e => by
  subst e
  rw [cell_of_row _ _ _ _ _ _ hg] at h
  unfold cCell at h
  match o, h with
  | 0, h => simp at h; exact hv.1 _ h.symm
  | 1, h => simp at h; exact hv.2 _ _ _ h.symm
  | 2, h => simp at h; exact hv.1 _ h.symm
  | 3, h => simp at h; exact hv.1 _ h.symm
  | o + 4, h => simp at h
/-- A cache's block is written over: blocks read as they did. -/
theorem Is.keep {w w' : World} {g : Nat} {ao : Option Addr} {n : Nat} {is : List Iv} (h : Is w ao n is) (hne : ∀ (b o : Nat) (x : Int), w.cell? ⟨b, o, none⟩ = some (.int .i32 x) → b ≠ g) (hk : ∀ b o, b ≠ g → w'.cell? ⟨b, o, none⟩ = w.cell? ⟨b, o, none⟩) (hs : w'.heap.size = w.heap.size) : Is w' ao n is :=
  ⟨h.len, h.ok, fun hn => by
    obtain ⟨b, o, e, hb, hc⟩ := h.spot hn
    have hne' : b ≠ g := by
      have : 0 < is.length := by rw [h.len]; exact hn
      obtain ⟨_, _, _, _, h4⟩ := hc 0 is[0] (List.getElem?_eq_getElem this)
      exact hne _ _ _ h4
    refine ⟨b, o, e, by rw [hs]; exact hb, fun j i hj => ?_⟩
    obtain ⟨h0, h1, h2, h3, h4⟩ := hc j i hj
    exact ⟨(hk _ _ hne').trans h0, (hk _ _ hne').trans h1, (hk _ _ hne').trans h2, (hk _ _ hne').trans h3, (hk _ _ hne').trans h4⟩⟩
theorem Bs.keep {w w' : World} {g : Nat} {ao : Option Addr} {n : Nat} {bs : List Bv} (h : Bs w ao n bs) (hne : ∀ (b o : Nat) (v : Value), w.cell? ⟨b, o, none⟩ = some v → (∀ x, ¬ v = .int .i64 x) ∧ (∀ a n c, ¬ v = .slice a n c) → b ≠ g) (hk : ∀ b o, b ≠ g → w'.cell? ⟨b, o, none⟩ = w.cell? ⟨b, o, none⟩) (hs : w'.heap.size = w.heap.size) : Bs w' ao n bs :=
  ⟨h.len, fun hn => by
    obtain ⟨b, o, e, hb, hc⟩ := h.spot hn
    refine ⟨b, o, e, by rw [hs]; exact hb, fun j x hj => ?_⟩
    obtain ⟨u, v, h0, h1, B⟩ := hc j x hj
    have hu : u = .int .u32 x.pc := B.1
    have hne' : b ≠ g := hne _ _ _ h0 (by rw [hu]; exact ⟨fun y => by simp, fun a n c => by simp⟩)
    refine ⟨u, v, (hk _ _ hne').trans h0, (hk _ _ hne').trans h1, ?_⟩
    obtain ⟨e1, e2, sa, sn, sc, e3, I, e4⟩ := B
    exact ⟨e1, e2, sa, sn, sc, e3, Is.keep I (fun b o x hx => hne _ _ _ hx ⟨fun y => by simp, fun a n c => by simp⟩) hk hs, e4⟩⟩
/-- A store of a whole struct, as the one step that is ready in a held region. -/
theorem held_sr {P : Program} {md : Region.Mode} {ops : Array Oper} {Q : Exit → Act → World → Prop} {S : World → Prop} {fuel i : Nat} {listed : Array Bool} {o : Oper} {a : Act} {w : World} (hr : Region.ready md ops listed = [i]) (hoi : ops[i]? = some o) (hg : o.guard = none) (ty : TypeId) (x y : Operand) (ho : o.op = .store ty x y)
    (g : Nat) (cells : Array Value) (hx : a.eval x = .pointer (some ⟨g, 0, none⟩)) (hy : a.eval y = .agg cells) (t : TypeId) (old : Array Value) (hb : w.heap[g]? = some (.cells old t (0, 0))) (hi : (P.info? ty).map (·.size) = some cells.size) (hold : old.size = cells.size) (h1 : cells.all (·.oneCell') = true)
    (hS : S (w.setRow g cells)) (h : wpAnyH P md ops Q S fuel (listed.setIfInBounds i true) (a.put o.dst undef) (w.setRow g cells)) : wpAnyH P md ops Q S (fuel + 1) listed a w :=
  wpAnyH_ready hr (by simp) (AllReadyH.cons hoi (fun K hK => Hc.step_store hg ty x y ho g cells hx hy t old hb hi hold h1 (hK.out _ _ hS fun _ => h)) AllReadyH.nil)
theorem cell_setRow_ne (w : World) (g : Nat) (cs : Array Value) (o : Nat) {b : Nat} (hb : b ≠ g) : (w.setRow g cs).cell? ⟨b, o, none⟩ = w.cell? ⟨b, o, none⟩ := by
  have h := setRow_other w g b cs hb
  unfold World.cell?
  rw [h]
theorem four_set {W : World} {g t : Nat} {z0 z1 z2 z3 : Value} (h : W.heap[g]? = some (.cells #[z0, z1, z2, z3] t (0, 0))) (a b c d : Value) : ((((W.setCell ⟨g, 0, none⟩ a).setCell ⟨g, 1, none⟩ b).setCell ⟨g, 2, none⟩ c).setCell ⟨g, 3, none⟩ d).heap[g]? = some (.cells #[a, b, c, d] t (0, 0)) := by
  have h0 := heap_setCell_same W g 0 _ _ a h
  have h1 := heap_setCell_same _ g 1 _ _ b h0
  have h2 := heap_setCell_same _ g 2 _ _ c h1
  exact heap_setCell_same _ g 3 _ _ d h2
theorem four_ne (W : World) (g : Nat) (a b c d : Value) {k : Nat} (o : Nat) (hk : k ≠ g) : ((((W.setCell ⟨g, 0, none⟩ a).setCell ⟨g, 1, none⟩ b).setCell ⟨g, 2, none⟩ c).setCell ⟨g, 3, none⟩ d).cell? ⟨k, o, none⟩ = W.cell? ⟨k, o, none⟩ := by
  rw [cell_set_other _ _ _ _ (by exact hk), cell_set_other _ _ _ _ (by exact hk), cell_set_other _ _ _ _ (by exact hk), cell_set_other _ _ _ _ (by exact hk)]
theorem Bc.keep {w w' : World} {g : Nat} {b : Bv} {x y : Value} (h : Bc w b x y) (hne : ∀ (b o : Nat) (v : Value), w.cell? ⟨b, o, none⟩ = some v → (∀ x, ¬ v = .int .i64 x) ∧ (∀ a n c, ¬ v = .slice a n c) → b ≠ g) (hk : ∀ b o, b ≠ g → w'.cell? ⟨b, o, none⟩ = w.cell? ⟨b, o, none⟩) (hs : w'.heap.size = w.heap.size) : Bc w' b x y := by
  obtain ⟨e1, e2, sa, sn, sc, e3, I, e4⟩ := h
  exact ⟨e1, e2, sa, sn, sc, e3, Is.keep I (fun b o x hx => hne _ _ _ hx ⟨fun y => by simp, fun a n c => by simp⟩) hk hs, e4⟩
theorem iBk2 : (Try.prog.info? 28).map (·.size) = some 2 := by kernel_rfl
theorem one_bk (pc : Int) (a : Option Addr) (n c : Nat) : (#[.int .u32 pc, .slice a n c] : Array Value).all (·.oneCell') = true := by
  refine all_oneCell_toArray (cs := [.int .u32 pc, .slice a n c]) ?_
  intro v hv
  simp only [List.mem_cons, List.not_mem_nil, or_false] at hv
  rcases hv with rfl | rfl <;> rfl
/-- A block's own two cells, just made, are written over: what is read as a block elsewhere stays. -/
theorem Bc.five {w : World} {g : Nat} {b : Bv} {x y : Value} (h : Bc w b x y) (hg : w.heap[g]? = some (.cells #[.int .u32 0, .slice none 0 0] 28 (0, 0))) (cs : Array Value) : Bc (w.setRow g cs) b x y := by
  obtain ⟨e1, e2, sa, sn, sc, e3, I, e4⟩ := h
  refine ⟨e1, e2, sa, sn, sc, e3, Is.keep (g := g) I (fun b o x hx e => ?_) (fun b o hb => cell_setRow_ne _ _ _ _ hb) (by simp), e4⟩
  subst e
  rw [cell_of_row _ _ _ _ _ _ hg] at hx
  match o, hx with
  | 0, hx => simp at hx
  | 1, hx => simp at hx
  | o + 2, hx => simp at hx
theorem Bs.take {w : World} {ao : Option Addr} {n : Nat} {bs : List Bv} (h : Bs w ao n bs) {t : Nat} (ht : t ≤ n) : Bs w ao t (bs.take t) :=
  ⟨by rw [List.length_take, h.len]; omega, fun h0 => by
    obtain ⟨b, o, e, hb, hc⟩ := h.spot (by omega)
    refine ⟨b, o, e, hb, fun j x hj => hc j x ?_⟩
    rw [List.getElem?_take] at hj
    split at hj
    · exact hj
    · cases hj⟩
/-- A world made a letter. -/
theorem atWd {p : World → Prop} {x : World} (F : World → Prop) (h : F x) (k : ∀ y, F y → p y) : p x := k x h
end Go.Proofs.Yteipplmmchaboab.Kc
