/-
  Ub2, Ub3: texts of ours that lie in one file.
-/
import Derived.Test.YtdiofidmlgliiaaDoorK05
import Derived.RangeFuncNested
import Derived.RangeFuncBound
import Derived.RangeFuncCalls
import Derived.RangeFuncLeaves
import Derived.Shelf.Abstract
import Derived.Shelf.RegionOpen
import Derived.WalkKit
import Derived.OwnWalkIn
import Derived.TacticsInMore
import Derived.LoopNIn
import Derived.LoopIn
/-
  What package undo's takeBack does: a step is taken back ('back1').
-/
namespace Go.Proofs.YtdiofidmlgliiaaDoor.Ud
open Go.ChangeShapes Go.WideShapes Go.ChangeAt Go.RowKit Mm Hh Hc Mc
set_option linter.unusedVariables false
set_option linter.unusedSimpArgs false

variable {w w' W0 : World} {n z gh hc : Nat} {M : Value} {hs : List Hv} {m : List UInt8} {u : Uv} {x : List Value}
/-- A machine of the program's own at block z: its memory M, its harts in block gh; both lie from n on. -/
structure Mz (w : World) (n z : Nat) (M : Value) (gh hc : Nat) (hs : List Hv) (m : List UInt8) : Prop where
  blk : w.heap[z]? = some (.cells #[M, .slice (some ⟨gh, 0, none⟩) hs.length hc] 34 (0, 0))
  bz : n ≤ z
  mem : Hc.Own w n M m
  bh : n ≤ gh
  row : HRow w gh hs
/-- What is left: of what lay below n nothing has turned, nor anything but harts and bytes. -/
structure Th (n : Nat) (w w' : World) : Prop where
  below : Below n w w'
  keep : ∀ (k : Nat) (o : Obj), w.heap[k]? = some o → (∀ q f, ¬ o = .cells q 70 f) → (∀ q f, ¬ o = .cells q 5 f) → w'.heap[k]? = some o
theorem Th.refl (n : Nat) (w : World) : Th n w w := ⟨Below.refl _ _, fun _ _ h _ _ => h⟩
theorem Th.trans {a b c : World} (h : Th n a b) (k : Th n b c) : Th n a c := ⟨h.below.trans k.below, fun i o e t1 t2 => k.keep i o (h.keep i o e t1 t2) t1 t2⟩
theorem Th.ofGr (G : Gr w w') (hb : n ≤ w.heap.size) : Th n w w' := ⟨Below.mono G hb, fun i o e _ _ => (G.block i (gs e).1).trans e⟩
theorem Th.row (h : Th n w w') {k : Nat} {q : Array Value} {t : Nat} {f : Nat × Nat} (e : w.heap[k]? = some (.cells q t f)) (t1 : t ≠ 70) (t2 : t ≠ 5) : w'.heap[k]? = some (.cells q t f) :=
  h.keep k _ e (fun _ _ c => t1 (by injection c)) (fun _ _ c => t2 (by injection c))
theorem th_one {g t : Nat} {Y : Array Value} {fr : Nat × Nat} (hy : w.heap[g]? = some (.cells Y t fr)) (ht : t = 70 ∨ t = 5) (hg : n ≤ g) (hb : n ≤ w.heap.size) (q : w.grownBy w' (some g)) : Th n w w' :=
  ⟨⟨q.os, q.tape, q.output, q.size, fun k hk => q.block k (by omega) (fun e => by injection e with e; omega)⟩, fun k o e t1 t2 => (q.block k (gs e).1 (fun e2 => by
    injection e2 with e2
    subst e2
    rw [hy] at e
    injection e with e
    rcases ht with rfl | rfl
    · exact t1 _ _ e.symm
    · exact t2 _ _ e.symm)).trans e⟩
theorem gr_th (G : Gr W0 w) (T : Th W0.heap.size w w') : Gr W0 w' := Below.trans G T.below
/-- The memory of a machine of one's own, with bytes laid over it. -/
theorem step_copy_x {P : Program} {ops : Array Oper} {o : Oper} {a : Act} {w : World} {K : Act → World → Prop} {Q : Exit → Act → World → Prop} {E : Prop} (hgd : o.guard = none) (d s : Operand) (dT sT : TypeId)
    (ho : o.op = .call { callee := .builtin .copy, args := #[d, s], argTypes := #[dT, sT] }) (elem : TypeId) (hu : P.underlying dT = some (.slice elem)) (hsz : (P.info? elem).map (·.size) = some 1)
    (g off dLen dCap : Nat) (ad : Addr) (sLen sCap : Nat) (hd : a.eval d = .slice (some ⟨g, off, none⟩) dLen dCap) (hs : a.eval s = .slice (some ad) sLen sCap)
    (cur : Array Value) (t : TypeId) (hg : w.heap[g]? = some (.cells cur t (0, 0))) (cs : List Value) (hn : cs.length = Nat.min sLen dLen)
    (hsrc : ∀ j v, cs[j]? = some v → w.cell? (ad.add j) = some v) (hfit : off + cs.length ≤ cur.size) (h1 : ∀ v ∈ cs, v.oneCell' = true)
    (h : K (a.put o.dst (goInt cs.length)) (w.setRow g (cur.toList.take off ++ (cs ++ cur.toList.drop (off + cs.length))).toArray)) :
    if Region.wanted o (yielded ops a.tmps) = true then Oper.wp P o a w K Q else E := by
  rw [if_pos (by simp [Region.wanted, hgd])]
  have hrun := run_copy_row (P := P) w dT sT o.type elem g off dLen dCap ad sLen sCap cur t cs hu hsz hg hn hsrc hfit h1
  unfold Oper.wp
  simp [execOp, ho, resolve, invoke, builtin, hd, hs, hrun, Result.andThen]
  exact h
theorem step_copy_0 {P : Program} {ops : Array Oper} {o : Oper} {a : Act} {w : World} {K : Act → World → Prop} {Q : Exit → Act → World → Prop} {E : Prop} (hgd : o.guard = none) (d s : Operand) (dT sT : TypeId)
    (ho : o.op = .call { callee := .builtin .copy, args := #[d, s], argTypes := #[dT, sT] }) (elem : TypeId) (hu : P.underlying dT = some (.slice elem)) (hsz : (P.info? elem).map (·.size) = some 1)
    (dp sp : Option Addr) (dLen dCap sLen sCap : Nat) (hd : a.eval d = .slice dp dLen dCap) (hs : a.eval s = .slice sp sLen sCap) (hn : Nat.min sLen dLen = 0)
    (h : K (a.put o.dst (goInt 0)) w) :
    if Region.wanted o (yielded ops a.tmps) = true then Oper.wp P o a w K Q else E := by
  rw [if_pos (by simp [Region.wanted, hgd])]
  have hrun := run_copy_none (P := P) w dT sT o.type elem dp sp dLen dCap sLen sCap hu hsz hn
  unfold Oper.wp
  simp [execOp, ho, resolve, invoke, builtin, hd, hs, hrun, Result.andThen]
  exact h
theorem own_lay {f : Nat} {bs : List UInt8} {mk cap : Nat} {rest : List Value} (hm : w.heap[mk]? = some (.cells (bc m ++ rest).toArray 5 (0, 0))) (h : f + bs.length ≤ m.length) :
    w.setRow mk ((bc m ++ rest).toArray.toList.take f ++ (bc bs ++ (bc m ++ rest).toArray.toList.drop (f + (bc bs).length))).toArray = w.setRow mk (bc (lay m f bs) ++ rest).toArray := by
  congr 2
  have l1 : (bc m).length = m.length := bc_len m
  have l2 : (bc bs).length = bs.length := bc_len bs
  simp only [List.toList_toArray]
  rw [List.take_append_of_le_length (by omega), List.drop_append_of_le_length (by omega), l2]
  unfold lay bc
  simp [List.map_append, List.map_take, List.map_drop]
/-- Where a cut begins. -/
def cutP (mo : Option Addr) (cap f : Nat) : Option Addr := if cap = f then mo else mo.map fun ad => ⟨ad.block, ad.off + f, ad.spot⟩
theorem step_copy_m {ops : Array Oper} {o : Oper} {a : Act} {w : World} {K : Act → World → Prop} {Q : Exit → Act → World → Prop} {E : Prop} (hgd : o.guard = none) (d s : Operand)
    (ho : o.op = .call { callee := .builtin .copy, args := #[d, s], argTypes := #[31, 31] }) {mo sp : Option Addr} {mn cap f sl sc n : Nat} {m bs : List UInt8} (hd : a.eval d = .slice (cutP mo cap f) (mn - f) (cap - f)) (hs : a.eval s = .slice sp sl sc)
    (hO : Hc.Own w n (.slice mo mn cap) m) (hml : m.length = mn) (hcap : mn ≤ cap) (MB : Mem w sp sl bs) (hfit : f + bs.length ≤ mn) (hnw : n ≤ w.heap.size)
    (hK : ∀ w', Hc.Own w' n (.slice mo mn cap) (lay m f bs) → Th n w w' → (∀ (k : Nat) (q : Array Value) (t : Nat) (fr : Nat × Nat), t ≠ 5 → w.heap[k]? = some (.cells q t fr) → w'.heap[k]? = w.heap[k]?) → K (a.put o.dst (goInt bs.length)) w') :
    if Region.wanted o (yielded ops a.tmps) = true then Oper.wp Tryd.prog o a w K Q else E := by
  have hbl := MB.len
  by_cases h0 : bs.length = 0
  · obtain rfl : bs = [] := List.eq_nil_of_length_eq_zero h0
    have e : lay m f [] = m := by simp [lay]
    refine step_copy_0 hgd d s 31 31 ho 5 Tryd.underlying31 (by kernel_rfl) _ _ _ _ _ _ hd hs (by rw [← hbl]; simp) ?_
    exact hK w (by rw [e]; exact hO) (Th.refl _ _) (fun _ _ _ _ _ _ => rfl)
  · rcases hO with ⟨h1, h2⟩ | ⟨mk, cp, h1, ⟨h2, h3⟩, rest, hr⟩
    · rw [h2] at hml; simp at hml; omega
    · injection h1 with e1 e2 e3
      subst e1 e3
      have hc : cutP (some ⟨mk, 0, none⟩) cap f = some ⟨mk, f, none⟩ := by unfold cutP; rw [if_neg (by omega)]; simp
      rw [hc] at hd
      cases sp with
      | none => exact absurd (MB.nil rfl) (by omega)
      | some ad =>
        have hg := own_lay (w := w) (cap := cap) hr (show f + bs.length ≤ m.length by omega)
        refine step_copy_x hgd d s 31 31 ho 5 Tryd.underlying31 (by kernel_rfl) mk f _ _ ad _ _ hd hs _ 5 hr (bc bs) (by rw [bc_len, hbl]; exact (Nat.min_eq_left (by omega)).symm) (fun j v hj => ?_) (by simp [bc_len]; omega) (bc_one bs) ?_
        · obtain ⟨j1, j2⟩ := bc_get hj
          rw [j2]
          exact MB.cell ad rfl j (by omega)
        · rw [hg, bc_len]
          have G : w.grownBy (w.setRow mk (bc (lay m f bs) ++ rest).toArray) (some mk) := ⟨rfl, rfl, rfl, by simp [World.setRow], fun k _ hk => sro (fun e => hk (by rw [e]))⟩
          have hll : (lay m f bs).length = m.length := by unfold lay; simp; omega
          refine hK _ (.inr ⟨mk, cap, by rw [hll, hml], ⟨h2, by omega⟩, rest, srh hr⟩) (th_one hr (.inr rfl) h2 hnw G) (fun k q t fr ht hk => sro (ne_of_types hk hr ht))
theorem back_gives (hs : List Hv) (ls : List (Int × Int)) {j : Nat} {q : Int × Int} (h : ls[j]? = some q) : gives hs (ls.take (j + 1)) = (gives hs (ls.take j)).set q.1.toNat (((gives hs (ls.take j)).getD q.1.toNat hN).hold true q.2) := by
  rw [List.take_add_one, h, Option.toList_some, gives_app]
  rfl
set_option maxHeartbeats 4000000 in
set_option maxRecDepth 100000 in
theorem takeBack_any {c mn : Nat} (U : Uc W0 u x) (G : Gr W0 w) (Z : Mz w W0.heap.size z M gh hc hs m) (hcl : hs.length = c) (hc4 : c ≤ 4) (hml : m.length = mn) (hmn : mn ≤ 4096) (hf : fitU c mn u = true) :
    Calls Tryd.prog 39 #[.pointer (some ⟨z, 0, none⟩), .agg x.toArray] w fun e w' => e = .returned (.tuple #[]) ∧ Mz w' W0.heap.size z M gh hc (back1 (hs, m) u).1 (back1 (hs, m) u).2 ∧ Th W0.heap.size w w' := by
  have HXL : Hid (x.length = 41) := U.len
  have HX1 : Hid (x.toArray.all (·.oneCell') = true) := U.one
  obtain ⟨ba, bn, bc', l1, l2, l3, hx, ok, _, _, MB, LS, _, b2⟩ := U
  unfold fitU at hf
  simp only [Bool.and_eq_true, decide_eq_true_eq, List.all_eq_true] at hf
  obtain ⟨⟨a0, a1⟩, a2, a3, a4⟩ := hf
  obtain ⟨k, hk⟩ := Int.eq_ofNat_of_zero_le a0
  obtain ⟨f, hf⟩ := Int.eq_ofNat_of_zero_le ok.f0
  have hkc : k < c := by omega
  have hfm : f + u.bs.length ≤ mn := by omega
  have HXe : Hid (x[0]? = some (.int .i64 k) ∧ (∀ i v, (hL u.was)[i]? = some v → x[1 + i]? = some v) ∧ x[38]? = some (.int .u32 f) ∧ x[39]? = some (.slice ba bn bc') ∧ x[40]? = some (.slice l1 l2 l3)) := by
    rw [hx, ← hk, ← hf]
    refine ⟨rfl, fun i v hi => ?_, uL_fld ok.was 0, uL_fld ok.was 1, uL_fld ok.was 2⟩
    have : i < 37 := by have := (List.getElem?_eq_some_iff.1 hi).1; rwa [hL_len ok.was] at this
    rw [uL_was ok.was this]; exact hi
  have HBk : Hid (back1 (hs, m) u = (gives (hs.set k u.was) u.lost, lay m f u.bs)) := by unfold Hid back1; rw [hk, hf]; simp only [Int.toNat_natCast]
  have HMB : Hid (Mem W0 ba bn u.bs) := MB
  have HLS : Hid (Ls W0 l1 l2 u.lost) := LS
  have HLQ : Hid (∀ q ∈ u.lost, (0 ≤ q.1 ∧ q.1 < c) ∧ 0 ≤ q.2 ∧ q.2 < 4294967296) := fun q hq => ⟨a4 q hq, ok.lost q hq⟩
  have HOW : Hid u.was.Ok := ok.was
  have HHL : Hid ((hL u.was).length = 37) := hL_len ok.was
  have HZ : Hid (Mz w W0.heap.size z M gh hc hs m) := Z
  have HG0 : Hid (Gr W0 w) := G
  have HCL : Hid (hs.length = c) := hcl
  have HML : Hid (m.length = mn) := hml
  have hn0 := G.size
  have hzl : z < w.heap.size := (gs Z.blk).1
  have hghl : gh < w.heap.size := by obtain ⟨_, e⟩ := Z.row.row; exact (gs e).1
  have hzg : z ≠ gh := by obtain ⟨_, e⟩ := Z.row.row; exact ne_of_types Z.blk e (by decide)
  clear Z G hx ok MB LS a0 a1 a2 a3 a4 hcl hml hk hf
  go_enter Tryd.func39, Tryd.ntmps39
  go_wp2_with fail
  refine atW (fun W => W.heap[w.heap.size]? = some (.cells x.toArray 86 (0, 0)) ∧ Gr w W) ⟨heap_alloc_new w _, (Gr.refl _).alloc _⟩ ?_
  rintro W1 ⟨KU, G1⟩
  obtain ⟨ub, hub⟩ : ∃ ub : Nat, ub = w.heap.size := ⟨_, rfl⟩
  rw [← hub] at KU ⊢
  have HU1 : Hid (W1.heap[ub]? = some (.cells x.toArray 86 (0, 0))) := KU
  have HZ1 : Hid (Mz W1 W0.heap.size z M gh hc hs m) := ⟨(G1.block _ hzl).trans HZ.out.blk, HZ.out.bz, own_gr HZ.out.mem G1, HZ.out.bh, HZ.out.row.of G1⟩
  have HG1 : Hid (Gr w W1) := G1
  have hzu : z ≠ ub := by omega
  have hgu : gh ≠ ub := by omega
  have HSv : Hid (∀ V : World, V.heap[z]? = W1.heap[z]? → V.heap[ub]? = W1.heap[ub]? → (fun W => W.cell? ⟨z, 1, none⟩ = some (.slice (some ⟨gh, 0, none⟩) c hc) ∧ W.cell? ⟨ub, 0, none⟩ = some (.int .i64 k) ∧ W.rangeAt ub 1 (hL u.was)) V) := fun V e1 e2 => by
    have h1 := e1.trans HZ1.out.blk
    have h2 := e2.trans HU1.out
    rw [HCL.out] at h1
    exact ⟨cr1 h1, (cr h2).trans (by rw [List.getElem?_toArray]; exact HXe.out.1), fun i v hi => by rw [cr h2, List.getElem?_toArray]; exact HXe.out.2.1 i v hi⟩
  clear KU G1 hub
  refine wp_region_held_drew (S := fun W => W.cell? ⟨z, 1, none⟩ = some (.slice (some ⟨gh, 0, none⟩) c hc) ∧ W.cell? ⟨ub, 0, none⟩ = some (.int .i64 k) ∧ W.rangeAt ub 1 (hL u.was)) (by kernel_rfl) (HSv.out _ rfl rfl) (fun hHeld => ?_)
  have HS0 : Hid _ := hHeld
  clear hHeld
  refine wpAnyH_take (i := 0) (v := .pointer (some ⟨z, 0, none⟩)) rfl (by kernel_rfl) (by kernel_rfl) (by kernel_rfl) (fun _ _ _ h => h) (Or.inl ⟨by rfl, fun W hW => by obtain ⟨y0, y1, y2⟩ := hW; go_simp⟩) HS0.out ?_
  simp only [List.getElem_toArray, List.getElem_cons_succ, List.getElem_cons_zero, Act.put, List.setIfInBounds_toArray, List.set_cons_zero, List.set_cons_succ]
  refine wpAnyH_take (i := 1) (v := .pointer (some ⟨z, 0, none⟩)) rfl (by kernel_rfl) (by kernel_rfl) (by kernel_rfl) (fun _ _ _ h => h) (Or.inl ⟨by rfl, fun W hW => by obtain ⟨y0, y1, y2⟩ := hW; go_simp⟩) HS0.out ?_
  simp only [List.getElem_toArray, List.getElem_cons_succ, List.getElem_cons_zero, Act.put, List.setIfInBounds_toArray, List.set_cons_zero, List.set_cons_succ]
  refine wpAnyH_take (i := 2) (v := .pointer (some ⟨z, 1, none⟩)) rfl (by kernel_rfl) (by kernel_rfl) (by kernel_rfl) (fun _ _ _ h => h) (Or.inl ⟨by rfl, fun W hW => by obtain ⟨y0, y1, y2⟩ := hW; go_simp⟩) HS0.out ?_
  simp only [List.getElem_toArray, List.getElem_cons_succ, List.getElem_cons_zero, Act.put, List.setIfInBounds_toArray, List.set_cons_zero, List.set_cons_succ]
  refine wpAnyH_take (i := 3) (v := .slice (some ⟨gh, 0, none⟩) c hc) rfl (by kernel_rfl) (by kernel_rfl) (by kernel_rfl) (fun _ _ _ h => h) (Or.inl ⟨by rfl, fun W hW => by obtain ⟨y0, y1, y2⟩ := hW; go_simp⟩) HS0.out ?_
  simp only [List.getElem_toArray, List.getElem_cons_succ, List.getElem_cons_zero, Act.put, List.setIfInBounds_toArray, List.set_cons_zero, List.set_cons_succ]
  refine wpAnyH_take (i := 4) (v := .pointer (some ⟨ub, 0, none⟩)) rfl (by kernel_rfl) (by kernel_rfl) (by kernel_rfl) (fun _ _ _ h => h) (Or.inl ⟨by rfl, fun W hW => by obtain ⟨y0, y1, y2⟩ := hW; go_simp⟩) HS0.out ?_
  simp only [List.getElem_toArray, List.getElem_cons_succ, List.getElem_cons_zero, Act.put, List.setIfInBounds_toArray, List.set_cons_zero, List.set_cons_succ]
  refine wpAnyH_take (i := 5) (v := .int .i64 k) rfl (by kernel_rfl) (by kernel_rfl) (by kernel_rfl) (fun _ _ _ h => h) (Or.inl ⟨by rfl, fun W hW => by obtain ⟨y0, y1, y2⟩ := hW; go_simp⟩) HS0.out ?_
  simp only [List.getElem_toArray, List.getElem_cons_succ, List.getElem_cons_zero, Act.put, List.setIfInBounds_toArray, List.set_cons_zero, List.set_cons_succ]
  refine wpAnyH_take (i := 6) (v := .pointer (some ⟨ub, 1, none⟩)) rfl (by kernel_rfl) (by kernel_rfl) (by kernel_rfl) (fun _ _ _ h => h) (Or.inl ⟨by rfl, fun W hW => by obtain ⟨y0, y1, y2⟩ := hW; go_simp⟩) HS0.out ?_
  simp only [List.getElem_toArray, List.getElem_cons_succ, List.getElem_cons_zero, Act.put, List.setIfInBounds_toArray, List.set_cons_zero, List.set_cons_succ]
  refine wpAnyH_take (i := 7) (v := .agg (hL u.was).toArray) rfl (by kernel_rfl) (by kernel_rfl) (by kernel_rfl) (fun _ _ _ h => h) (yieldsIf_load_mid (by rfl) 70 (.tmp 12) rfl ub 1 (by simp [Act.eval]) (hL u.was) _ (fun W hW => hW.2.2) Tryd.underlying70 rfl (by rw [HHL.out]; exact iH)) HS0.out ?_
  simp only [List.getElem_toArray, List.getElem_cons_succ, List.getElem_cons_zero, Act.put, List.setIfInBounds_toArray, List.set_cons_zero, List.set_cons_succ]
  refine wpAnyH_take (i := 8) (v := .pointer (some ⟨gh, k * 37, none⟩)) rfl (by kernel_rfl) (by kernel_rfl) (by kernel_rfl) (fun _ _ _ h => h) (Or.inl ⟨by rfl, fun W hW => by obtain ⟨y0, y1, y2⟩ := hW; go_simp⟩) HS0.out ?_
  simp only [List.getElem_toArray, List.getElem_cons_succ, List.getElem_cons_zero, Act.put, List.setIfInBounds_toArray, List.set_cons_zero, List.set_cons_succ]
  have hkl : k < hs.length := by rw [HCL.out]; exact hkc
  obtain ⟨hk0, hhk⟩ : ∃ hk0, hs[k]? = some hk0 := ⟨_, List.getElem?_eq_getElem hkl⟩
  have HTh : Hid (W1.drew.there gh (k * 37) 37) := (show HRow W1.drew gh hs from HZ1.out.row.of (Gr.drew (Gr.refl _))).there hhk
  have HCh : Hid (Ch gh W1.drew (W1.drew.setCells gh (k * 37) (hL u.was))) := Mc.Ch.setCells (Ch.refl gh W1.drew) _ _
  have HRo : Hid (HRow (W1.drew.setCells gh (k * 37) (hL u.was)) gh (hs.set k u.was)) := (show HRow W1.drew gh hs from HZ1.out.row.of (Gr.drew (Gr.refl _))).put hkl HOW.out
  have hsz1 := HG1.out.size
  refine held_store_mid (i := 9) (by kernel_rfl) rfl rfl 70 (.tmp 14) (.tmp 13) rfl gh (k * 37) (hL u.was).toArray (by simp [Act.eval]) (by simp [Act.eval]) (by rw [List.size_toArray, HHL.out]; exact HTh.out) (by rw [List.size_toArray, HHL.out]; exact iH) (one_hA u.was) (HSv.out _ (HCh.out.block z (by show z < W1.heap.size; omega) (fun e => hzg (by injection e))) (HCh.out.block ub (gs HU1.out).1 (fun e => hgu (by injection e with e; exact e.symm)))) ?_
  refine wpAnyH_done (by kernel_rfl) ?_ _
  refine atW (fun W => Mz W W0.heap.size z M gh hc (hs.set k u.was) m ∧ W.heap[ub]? = some (.cells x.toArray 86 (0, 0)) ∧ Th W0.heap.size w W) ⟨?fa, ?fb, ?fc⟩ ?_
  case fa =>
    refine ⟨?_, HZ1.out.bz, ?_, HZ1.out.bh, HRo.out⟩
    · rw [List.length_set]; exact (HCh.out.block z (by show z < W1.heap.size; omega) (fun e => hzg (by injection e))).trans HZ1.out.blk
    · exact HZ1.out.mem.to fun q ob fz hq => ch_keep (show HRow W1.drew gh hs from HZ1.out.row.of (Gr.drew (Gr.refl _))) HCh.out (by decide) hq
  case fb => exact (HCh.out.block ub (gs HU1.out).1 (fun e => hgu (by injection e with e; exact e.symm))).trans HU1.out
  case fc =>
    obtain ⟨rst, hrw⟩ := HZ1.out.row.row
    exact (Th.ofGr (Gr.drew HG1.out) hn0).trans (th_one (w := W1.drew) hrw (.inl rfl) HZ1.out.bh (by show W0.heap.size ≤ W1.heap.size; omega) HCh.out)
  rintro W2 ⟨Z2, KU, T2⟩
  have HZ2 : Hid (Mz W2 W0.heap.size z M gh hc (hs.set k u.was) m) := Z2
  have HU2 : Hid (W2.heap[ub]? = some (.cells x.toArray 86 (0, 0))) := KU
  have HT2 : Hid (Th W0.heap.size w W2) := T2
  clear HSv HS0 HTh HCh HRo HU1 HZ1 HG1 hhk hk0 Z2 KU T2 HZ hsz1
  clear W1
  obtain ⟨mo, cap, hMe, hcp, hmo⟩ : ∃ mo cap, M = .slice mo mn cap ∧ mn ≤ cap ∧ ((mo = none ∧ mn = 0 ∧ cap = 0) ∨ ∃ mk, mo = some ⟨mk, 0, none⟩) := by
    rcases HZ2.out.mem with ⟨h1, h2⟩ | ⟨mk, cp, h1, ⟨_, h3⟩, _⟩
    · have h0 : mn = 0 := by rw [← HML.out, h2]; rfl
      exact ⟨none, 0, by rw [h1, h0], by omega, .inl ⟨rfl, h0, rfl⟩⟩
    · rw [HML.out] at h1 h3
      exact ⟨_, cp, h1, h3, .inr ⟨mk, rfl⟩⟩
  have HMe : Hid (M = .slice mo mn cap) := hMe
  have hmf : f ≤ mn := by omega
  have q1 : (f : Int) ≤ (mn : Int) := by omega
  have q2 : (mn : Int) ≤ (cap : Int) := by omega
  have q3 : (0 : Int) ≤ (f : Int) := by omega
  have HSv : Hid (∀ V : World, V.heap[z]? = W2.heap[z]? → V.heap[ub]? = W2.heap[ub]? → (fun W => W.cell? ⟨z, 0, none⟩ = some (.slice mo mn cap) ∧ W.cell? ⟨ub, 38, none⟩ = some (.int .u32 f) ∧ W.cell? ⟨ub, 39, none⟩ = some (.slice ba bn bc')) V) := fun V e1 e2 => by
    have h1 := e1.trans HZ2.out.blk
    have h2 := e2.trans HU2.out
    rw [HMe.out] at h1
    exact ⟨cr0 h1, (cr h2).trans (by rw [List.getElem?_toArray]; exact HXe.out.2.2.1), (cr h2).trans (by rw [List.getElem?_toArray]; exact HXe.out.2.2.2.1)⟩
  clear hMe
  go_wp2_with fail
  refine wp_region_held_drew (S := fun W => W.cell? ⟨z, 0, none⟩ = some (.slice mo mn cap) ∧ W.cell? ⟨ub, 38, none⟩ = some (.int .u32 f) ∧ W.cell? ⟨ub, 39, none⟩ = some (.slice ba bn bc')) (by kernel_rfl) (HSv.out _ rfl rfl) (fun hHeld => ?_)
  have HS0 : Hid _ := hHeld
  clear hHeld
  refine wpAnyH_take (i := 0) (v := .pointer (some ⟨z, 0, none⟩)) rfl (by kernel_rfl) (by kernel_rfl) (by kernel_rfl) (fun _ _ _ h => h) (Or.inl ⟨by rfl, fun W hW => by obtain ⟨y0, y1, y2⟩ := hW; go_simp⟩) HS0.out ?_
  simp only [List.getElem_toArray, List.getElem_cons_succ, List.getElem_cons_zero, Act.put, List.setIfInBounds_toArray, List.set_cons_zero, List.set_cons_succ]
  refine wpAnyH_take (i := 1) (v := .pointer (some ⟨z, 0, none⟩)) rfl (by kernel_rfl) (by kernel_rfl) (by kernel_rfl) (fun _ _ _ h => h) (Or.inl ⟨by rfl, fun W hW => by obtain ⟨y0, y1, y2⟩ := hW; go_simp⟩) HS0.out ?_
  simp only [List.getElem_toArray, List.getElem_cons_succ, List.getElem_cons_zero, Act.put, List.setIfInBounds_toArray, List.set_cons_zero, List.set_cons_succ]
  refine wpAnyH_take (i := 2) (v := .pointer (some ⟨z, 0, none⟩)) rfl (by kernel_rfl) (by kernel_rfl) (by kernel_rfl) (fun _ _ _ h => h) (Or.inl ⟨by rfl, fun W hW => by obtain ⟨y0, y1, y2⟩ := hW; go_simp⟩) HS0.out ?_
  simp only [List.getElem_toArray, List.getElem_cons_succ, List.getElem_cons_zero, Act.put, List.setIfInBounds_toArray, List.set_cons_zero, List.set_cons_succ]
  refine wpAnyH_take (i := 3) (v := .slice mo mn cap) rfl (by kernel_rfl) (by kernel_rfl) (by kernel_rfl) (fun _ _ _ h => h) (Or.inl ⟨by rfl, fun W hW => by obtain ⟨y0, y1, y2⟩ := hW; go_simp⟩) HS0.out ?_
  simp only [List.getElem_toArray, List.getElem_cons_succ, List.getElem_cons_zero, Act.put, List.setIfInBounds_toArray, List.set_cons_zero, List.set_cons_succ]
  refine wpAnyH_take (i := 4) (v := .pointer (some ⟨ub, 38, none⟩)) rfl (by kernel_rfl) (by kernel_rfl) (by kernel_rfl) (fun _ _ _ h => h) (Or.inl ⟨by rfl, fun W hW => by obtain ⟨y0, y1, y2⟩ := hW; go_simp⟩) HS0.out ?_
  simp only [List.getElem_toArray, List.getElem_cons_succ, List.getElem_cons_zero, Act.put, List.setIfInBounds_toArray, List.set_cons_zero, List.set_cons_succ]
  refine wpAnyH_take (i := 5) (v := .int .u32 f) rfl (by kernel_rfl) (by kernel_rfl) (by kernel_rfl) (fun _ _ _ h => h) (Or.inl ⟨by rfl, fun W hW => by obtain ⟨y0, y1, y2⟩ := hW; go_simp⟩) HS0.out ?_
  simp only [List.getElem_toArray, List.getElem_cons_succ, List.getElem_cons_zero, Act.put, List.setIfInBounds_toArray, List.set_cons_zero, List.set_cons_succ]
  refine wpAnyH_take (i := 6) (v := .slice (cutP mo cap f) (mn - f) (cap - f)) rfl (by kernel_rfl) (by kernel_rfl) (by kernel_rfl) (fun _ _ _ h => h) ?hcut HS0.out ?_
  simp only [List.getElem_toArray, List.getElem_cons_succ, List.getElem_cons_zero, Act.put, List.setIfInBounds_toArray, List.set_cons_zero, List.set_cons_succ]
  case hcut =>
    rcases hmo with ⟨rfl, rfl, rfl⟩ | ⟨mk, rfl⟩
    · obtain rfl : f = 0 := by omega
      rw [show cutP none 0 0 = none from rfl]
      exact Or.inl ⟨by rfl, fun W hW => by obtain ⟨y0, y1, y2⟩ := hW; go_simp⟩
    · by_cases hcf : cap = f
      · rw [show cutP (some ⟨mk, 0, none⟩) cap f = some ⟨mk, 0, none⟩ from if_pos hcf]
        exact Or.inl ⟨by rfl, fun W hW => by obtain ⟨y0, y1, y2⟩ := hW; go_simp⟩
      · rw [show cutP (some ⟨mk, 0, none⟩) cap f = some ⟨mk, f, none⟩ by unfold cutP; rw [if_neg hcf]; simp]
        exact Or.inl ⟨by rfl, fun W hW => by obtain ⟨y0, y1, y2⟩ := hW; go_simp⟩
  refine wpAnyH_take (i := 7) (v := .pointer (some ⟨ub, 39, none⟩)) rfl (by kernel_rfl) (by kernel_rfl) (by kernel_rfl) (fun _ _ _ h => h) (Or.inl ⟨by rfl, fun W hW => by obtain ⟨y0, y1, y2⟩ := hW; go_simp⟩) HS0.out ?_
  simp only [List.getElem_toArray, List.getElem_cons_succ, List.getElem_cons_zero, Act.put, List.setIfInBounds_toArray, List.set_cons_zero, List.set_cons_succ]
  refine wpAnyH_take (i := 8) (v := .slice ba bn bc') rfl (by kernel_rfl) (by kernel_rfl) (by kernel_rfl) (fun _ _ _ h => h) (Or.inl ⟨by rfl, fun W hW => by obtain ⟨y0, y1, y2⟩ := hW; go_simp⟩) HS0.out ?_
  simp only [List.getElem_toArray, List.getElem_cons_succ, List.getElem_cons_zero, Act.put, List.setIfInBounds_toArray, List.set_cons_zero, List.set_cons_succ]
  refine wpAnyH_ready (rs := [9]) (by kernel_rfl) (by simp) ?_
  refine AllReadyH.cons rfl (fun K hK => ?_) AllReadyH.nil
  have HO2 : Hid (Hc.Own W2.drew W0.heap.size (.slice mo mn cap) m) := by have := HZ2.out.mem; rw [HMe.out] at this; exact this
  have HB2 : Hid (Mem W2.drew ba bn u.bs) := HMB.out.of (gr_th HG0.out (HT2.out.trans (Th.ofGr (Gr.drew (Gr.refl W2)) (Nat.le_trans hn0 HT2.out.below.size))))
  refine step_copy_m (mo := mo) (sp := ba) (mn := mn) (cap := cap) (f := f) (sl := bn) (sc := bc') (n := W0.heap.size) (m := m) (bs := u.bs) rfl (.tmp 21) (.tmp 23) rfl (by simp [Act.eval, Act.put]) (by simp [Act.eval, Act.put]) HO2.out HML.out hcp HB2.out hfm (Nat.le_trans hn0 HT2.out.below.size) ?_
  intro W3 O3 T3 K3
  have HZ3 : Hid (Mz W3 W0.heap.size z M gh hc (hs.set k u.was) (lay m f u.bs)) := ⟨(K3 _ _ _ _ (by decide) (show W2.drew.heap[z]? = _ from HZ2.out.blk)).trans HZ2.out.blk, HZ2.out.bz, by rw [HMe.out]; exact O3, HZ2.out.bh, HZ2.out.row.to fun q ob fz hq => K3 q ob _ fz (by decide) hq⟩
  have HU3 : Hid (W3.heap[ub]? = some (.cells x.toArray 86 (0, 0))) := (K3 _ _ _ _ (by decide) (show W2.drew.heap[ub]? = _ from HU2.out)).trans HU2.out
  have HT3 : Hid (Th W0.heap.size w W3) := HT2.out.trans ((Th.ofGr (Gr.drew (Gr.refl W2)) (Nat.le_trans hn0 HT2.out.below.size)).trans T3)
  refine hK.out _ _ (HSv.out _ (HZ3.out.blk.trans (by rw [HZ2.out.blk])) (HU3.out.trans HU2.out.symm)) (fun hx => ?_)
  clear hK K hx O3 T3 K3
  refine wpAnyH_done (by kernel_rfl) ?_ _
  clear HSv HS0 HO2 HB2 HZ2 HU2 HT2
  clear W2
  have k40 : W3.cell? ⟨ub, 40, none⟩ = some (.slice l1 l2 l3) := (cr HU3.out).trans (by rw [List.getElem?_toArray]; exact HXe.out.2.2.2.2)
  have HLL : Hid (u.lost.length = l2) := HLS.out.len
  go_wp2_with fail
  go_loopw [28] (fun i wr => ∃ q : Nat, q ≤ l2 ∧ i = .int .i64 q ∧ Mz wr W0.heap.size z M gh hc (gives (hs.set k u.was) (u.lost.take q)) (lay m f u.bs) ∧ Th W0.heap.size w wr) (fun i _ => l2 - (intOf i).toNat)
  case atStart => exact ⟨0, Nat.zero_le _, rfl, HZ3.out, HT3.out⟩
  case round =>
    obtain ⟨q, hq, rfl, Z4, T4⟩ := hrel
    have HZ4 : Hid (Mz wr W0.heap.size z M gh hc (gives (hs.set k u.was) (u.lost.take q)) (lay m f u.bs)) := Z4
    have HT4 : Hid (Th W0.heap.size w wr) := T4
    have HG4 : Hid (Gr W0 wr) := gr_th HG0.out T4
    clear Z4 T4 HZ3 HU3 HT3 k40
    by_cases hlt : q < l2
    · obtain ⟨p, hp⟩ : ∃ p, u.lost[q]? = some p := ⟨_, List.getElem?_eq_getElem (by rw [HLL.out]; exact hlt)⟩
      obtain ⟨b7, o7, rfl, hb7, hc7⟩ := HLS.out.spot (by omega)
      have z0 : wr.cell? ⟨b7, o7 + q * 2, none⟩ = some (.int .i64 p.1) := (HG4.out.cell _ (by exact hb7)).trans (hc7 q p hp).1
      have z1 : wr.cell? ⟨b7, o7 + q * 2 + 1, none⟩ = some (.int .u32 p.2) := (HG4.out.cell _ (by exact hb7)).trans (hc7 q p hp).2
      obtain ⟨⟨p0, p1⟩, p2, p3⟩ := HLQ.out p (List.mem_of_getElem? hp)
      have HNx : Hid (gives (hs.set k u.was) (u.lost.take (q + 1)) = (gives (hs.set k u.was) (u.lost.take q)).set p.1.toNat (((gives (hs.set k u.was) (u.lost.take q)).getD p.1.toNat hN).hold true p.2)) := back_gives _ _ hp
      have HGL : Hid ((gives (hs.set k u.was) (u.lost.take q)).length = c) := by unfold Hid; rw [gives_len, List.length_set, HCL.out]
      clear hc7 hp
      obtain ⟨pa, pb⟩ := p
      simp only at *
      obtain ⟨v, rfl⟩ := Int.eq_ofNat_of_zero_le p0
      simp only [Int.toNat_natCast] at HNx
      have hv : v < c := by omega
      generalize gives (hs.set k u.was) (u.lost.take q) = hs4 at *
      obtain ⟨h4, hh4⟩ : ∃ h4, hs4[v]? = some h4 := ⟨_, List.getElem?_eq_getElem (by rw [HGL.out]; exact hv)⟩
      have hgd : hs4.getD v hN = h4 := by simp [List.getD, hh4]
      rw [hgd] at HNx
      have ok4 := HZ4.out.row.ok h4 (List.mem_of_getElem? hh4)
      have y1 : wr.cell? ⟨z, 1, none⟩ = some (.slice (some ⟨gh, 0, none⟩) c hc) := by have := cr1 HZ4.out.blk; rw [HGL.out] at this; exact this
      have c33 : wr.cell? ⟨gh, v * 37 + 33, none⟩ = some (.bool h4.held) := (HZ4.out.row.cell hh4 (by omega)).trans (hL_fld ok4 1)
      have f33 : wr.frozen? ⟨gh, v * 37 + 33, none⟩ = false := HZ4.out.row.fz _
      have hzw : z < wr.heap.size := (gs HZ4.out.blk).1
      have hgw : gh < wr.heap.size := by obtain ⟨_, e⟩ := HZ4.out.row.row; exact (gs e).1
      clear hgd
      go_wp2_with fail
      refine atW (fun W => W.heap[wr.heap.size]? = some (.cells #[.int .i64 v, .int .u32 pb] 88 (0, 0)) ∧ Gr wr W) ⟨heap_alloc_new wr _, (Gr.refl _).alloc _⟩ ?_
      rintro W5 ⟨KL, G5⟩
      obtain ⟨lb, hlb⟩ : ∃ lb : Nat, lb = wr.heap.size := ⟨_, rfl⟩
      rw [← hlb] at KL ⊢
      have HL5 : Hid (W5.heap[lb]? = some (.cells #[.int .i64 v, .int .u32 pb] 88 (0, 0))) := KL
      have HZ5 : Hid (Mz W5 W0.heap.size z M gh hc hs4 (lay m f u.bs)) := ⟨(G5.block _ hzw).trans HZ4.out.blk, HZ4.out.bz, own_gr HZ4.out.mem G5, HZ4.out.bh, HZ4.out.row.of G5⟩
      have HT5 : Hid (Th W0.heap.size w W5) := HT4.out.trans (Th.ofGr G5 (Nat.le_trans hn0 HT4.out.below.size))
      have hgb : gh ≠ lb := by omega
      have a1 : W5.cell? ⟨z, 1, none⟩ = some (.slice (some ⟨gh, 0, none⟩) c hc) := (G5.cell _ (by exact hzw)).trans y1
      have a2 := cr0 KL
      have a3 : W5.cell? ⟨gh, v * 37 + 33, none⟩ = some (.bool h4.held) := (G5.cell _ (by exact hgw)).trans c33
      have a4 : W5.frozen? ⟨gh, v * 37 + 33, none⟩ = false := HZ5.out.row.fz _
      have HSx : Hid (∀ (V : World) (i : Nat) (b : Value), V.heap[z]? = W5.heap[z]? → V.heap[lb]? = W5.heap[lb]? → (V.setCell ⟨gh, i, none⟩ b).cell? ⟨z, 1, none⟩ = some (.slice (some ⟨gh, 0, none⟩) c hc) ∧ (V.setCell ⟨gh, i, none⟩ b).cell? ⟨lb, 0, none⟩ = some (.int .i64 v) ∧ (V.setCell ⟨gh, i, none⟩ b).cell? ⟨lb, 1, none⟩ = some (.int .u32 pb)) := fun V i b e1 e2 => by
        have h1 := (hso (w := V) (a := ⟨gh, i, none⟩) (v := b) (k := z) hzg).trans (e1.trans HZ5.out.blk)
        have h2 := (hso (w := V) (a := ⟨gh, i, none⟩) (v := b) (k := lb) hgb.symm).trans (e2.trans HL5.out)
        rw [HGL.out] at h1
        exact ⟨cr1 h1, cr0 h2, cr1 h2⟩
      clear KL G5 hlb HZ4 HT4 HG4 z0 z1 y1 c33 f33 hzw hgw
      go_region_held3 (fun W => W.cell? ⟨z, 1, none⟩ = some (.slice (some ⟨gh, 0, none⟩) c hc) ∧ W.cell? ⟨lb, 0, none⟩ = some (.int .i64 v)) (first | (refine ⟨?_, ?_⟩ <;> assumption) | (exact ⟨(HSx.out _ _ _ rfl rfl).1, (HSx.out _ _ _ rfl rfl).2.1⟩)) (fail)
      refine atW (fun W => Mz W W0.heap.size z M gh hc (hs4.set v { h4 with held := true }) (lay m f u.bs) ∧ W.heap[lb]? = some (.cells #[.int .i64 v, .int .u32 pb] 88 (0, 0)) ∧ Th W0.heap.size w W) ⟨?ga, ?gb, ?gc⟩ ?_
      case ga =>
        refine ⟨by rw [List.length_set]; exact (hso (w := W5) (a := ⟨gh, v * 37 + 33, none⟩) (v := .bool true) (k := z) hzg).trans HZ5.out.blk, HZ5.out.bz, ?_, HZ5.out.bh, ?_⟩
        · obtain ⟨_, e⟩ := HZ5.out.row.row
          exact (show Hc.Own W5.drew _ _ _ from HZ5.out.mem).to fun q ob fz hq => hso (by exact ne_of_types hq (show W5.drew.heap[gh]? = _ from e) (by decide))
        · exact HRow.set (show HRow W5.drew gh hs4 from HZ5.out.row.of (Gr.drew (Gr.refl _))) hh4 (by omega) (set_held ok4 true) ⟨ok4.len, ok4.reg, ok4.pc0, ok4.pc1, ok4.at0, ok4.at1⟩
      case gb => exact (hso (w := W5) (a := ⟨gh, v * 37 + 33, none⟩) (v := .bool true) (k := lb) hgb.symm).trans HL5.out
      case gc =>
        obtain ⟨_, e⟩ := HZ5.out.row.row
        exact (HT5.out.trans (Th.ofGr (Gr.drew (Gr.refl W5)) (Nat.le_trans hn0 HT5.out.below.size))).trans (th_one (show W5.drew.heap[gh]? = _ from e) (.inl rfl) HZ5.out.bh (Nat.le_trans hn0 HT5.out.below.size) ((Ch.refl gh W5.drew).setCell _ _))
      rintro W6 ⟨Z6, L6, T6⟩
      have HZ6 : Hid (Mz W6 W0.heap.size z M gh hc (hs4.set v { h4 with held := true }) (lay m f u.bs)) := Z6
      have HL6 : Hid (W6.heap[lb]? = some (.cells #[.int .i64 v, .int .u32 pb] 88 (0, 0))) := L6
      have HT6 : Hid (Th W0.heap.size w W6) := T6
      have hh6 : (hs4.set v { h4 with held := true })[v]? = some { h4 with held := true } := by rw [List.getElem?_set_self]; rw [HGL.out]; exact hv
      have b1 : W6.cell? ⟨z, 1, none⟩ = some (.slice (some ⟨gh, 0, none⟩) c hc) := by have := cr1 Z6.blk; rw [List.length_set, HGL.out] at this; exact this
      have b2' := cr0 L6
      have b3 := cr1 L6
      have b4 : W6.cell? ⟨gh, v * 37 + 34, none⟩ = some (.int .u32 h4.heldAt) := (Z6.row.cell hh6 (by omega)).trans (hL_fld (h := { h4 with held := true }) ⟨ok4.len, ok4.reg, ok4.pc0, ok4.pc1, ok4.at0, ok4.at1⟩ 2)
      have b5 : W6.frozen? ⟨gh, v * 37 + 34, none⟩ = false := Z6.row.fz _
      clear HSx HZ5 HL5 HT5 a1 a2 a3 a4 Z6 L6 T6
      have HSx : Hid (∀ (V : World) (i : Nat) (b : Value), V.heap[z]? = W6.heap[z]? → V.heap[lb]? = W6.heap[lb]? → (V.setCell ⟨gh, i, none⟩ b).cell? ⟨z, 1, none⟩ = some (.slice (some ⟨gh, 0, none⟩) c hc) ∧ (V.setCell ⟨gh, i, none⟩ b).cell? ⟨lb, 0, none⟩ = some (.int .i64 v) ∧ (V.setCell ⟨gh, i, none⟩ b).cell? ⟨lb, 1, none⟩ = some (.int .u32 pb)) := fun V i b e1 e2 => by
        have h1 := (hso (w := V) (a := ⟨gh, i, none⟩) (v := b) (k := z) hzg).trans (e1.trans HZ6.out.blk)
        have h2 := (hso (w := V) (a := ⟨gh, i, none⟩) (v := b) (k := lb) hgb.symm).trans (e2.trans HL6.out)
        rw [List.length_set, HGL.out] at h1
        exact ⟨cr1 h1, cr0 h2, cr1 h2⟩
      go_wp2_with fail
      go_region_held3 (fun W => W.cell? ⟨z, 1, none⟩ = some (.slice (some ⟨gh, 0, none⟩) c hc) ∧ W.cell? ⟨lb, 0, none⟩ = some (.int .i64 v) ∧ W.cell? ⟨lb, 1, none⟩ = some (.int .u32 pb)) (first | (refine ⟨?_, ?_, ?_⟩ <;> assumption) | (exact HSx.out _ _ _ rfl rfl)) (fail)
      refine atW (fun W => Mz W W0.heap.size z M gh hc (hs4.set v (h4.hold true pb)) (lay m f u.bs) ∧ Th W0.heap.size w W) ⟨?ha, ?hc'⟩ ?_
      case ha =>
        refine ⟨by have := HZ6.out.blk; rw [List.length_set] at this ⊢; exact (hso (w := W6) (a := ⟨gh, v * 37 + 34, none⟩) (v := .int .u32 pb) (k := z) hzg).trans this, HZ6.out.bz, ?_, HZ6.out.bh, ?_⟩
        · obtain ⟨_, e⟩ := HZ6.out.row.row
          exact (show Hc.Own W6.drew _ _ _ from HZ6.out.mem).to fun q ob fz hq => hso (by exact ne_of_types hq (show W6.drew.heap[gh]? = _ from e) (by decide))
        · have := HRow.set (h' := h4.hold true pb) (show HRow W6.drew gh (hs4.set v { h4 with held := true }) from HZ6.out.row.of (Gr.drew (Gr.refl _))) hh6 (by omega) (set_heldAt (h := { h4 with held := true }) ⟨ok4.len, ok4.reg, ok4.pc0, ok4.pc1, ok4.at0, ok4.at1⟩ pb) (ok4.hold true p2 p3)
          rwa [List.set_set] at this
      case hc' =>
        obtain ⟨_, e⟩ := HZ6.out.row.row
        exact (HT6.out.trans (Th.ofGr (Gr.drew (Gr.refl W6)) (Nat.le_trans hn0 HT6.out.below.size))).trans (th_one (show W6.drew.heap[gh]? = _ from e) (.inl rfl) HZ6.out.bh (Nat.le_trans hn0 HT6.out.below.size) ((Ch.refl gh W6.drew).setCell _ _))
      rintro W7 ⟨Z7, T7⟩
      have HZ7 : Hid (Mz W7 W0.heap.size z M gh hc (hs4.set v (h4.hold true pb)) (lay m f u.bs)) := Z7
      have HT7 : Hid (Th W0.heap.size w W7) := T7
      clear Z7 T7 HSx HZ6 HL6 HT6 b1 b2' b3 b4 b5
      go_wp2_with fail
      go_roundw
      case rel => exact ⟨q + 1, by omega, by go_num, by rw [HNx.out]; exact HZ7.out, HT7.out⟩
      case measure => simp [intOf]; omega
    · have HFi : Hid (Mz wr W0.heap.size z M gh hc (back1 (hs, m) u).1 (back1 (hs, m) u).2) := by
        rw [HBk.out]
        have := HZ4.out
        rwa [List.take_of_length_le (by rw [HLL.out]; omega)] at this
      go_wp2_with fail
      go_end0
      exact ⟨rfl, HFi.out, HT4.out⟩
end Go.Proofs.YtdiofidmlgliiaaDoor.Ud
/-
  slices.Backward over Undos, as a range over a function meets it: the last one first.
-/
namespace Go.Proofs.YtdiofidmlgliiaaDoor.Ud
open Go.ChangeShapes Go.WideShapes Go.ChangeAt Go.RowKit Go.Shelf Mm Hh Hc Mc
set_option linter.unusedVariables false
set_option linter.unusedSimpArgs false
attribute [local go_sem] Oper.semAt_some

section
variable {F : Fence} {n : Nat} {P : Program} {ops : Array Oper} {rest : List Oper} {op : Oper} {a : Act} {w : World} {Q : Exit → Act → World → Prop}
theorem wpListIn_load_mid (hgd : op.guard = none) (ty : TypeId) (x : Operand) (ho : op.op = .load ty x)
    (b o : Nat) (hx : a.eval x = .pointer (some ⟨b, o, none⟩)) (cs : List Value) (d : TypeDesc) (hc : w.rangeAt b o cs)
    (hu : P.underlying ty = some d) (hd : d.isRow = true) (hi : (P.info? ty).map (·.size) = some cs.length)
    (h : wpListIn F n P ops Q rest (a.put op.dst (.agg cs.toArray)) w) : wpListIn F n P ops Q (op :: rest) a w := by
  refine wpListIn_plain hgd fun K hK => ?_
  unfold Oper.wpIn
  refine ⟨by simp [Oper.about, ho], ?_⟩
  rw [Oper.semAt_plain F _ _ (by rw [ho]; intro c hc'; cases hc')]
  unfold execOp
  simp only [ho, hx, Instr.loadAt, Instr.sureAddr, Sem.run_bind, Sem.run_pure, Result.andThen_ok, run_loadVar_mid w b o ty cs d hc hu hd hi]
  exact hK _ _ h
theorem wpListIn_store_row' (hgd : op.guard = none) (ty : TypeId) (x y : Operand) (ho : op.op = .store ty x y)
    (g : Nat) (cells : Array Value) (hx : a.eval x = .pointer (some ⟨g, 0, none⟩)) (hy : a.eval y = .agg cells) (t : TypeId) (old : Array Value) (hb : w.heap[g]? = some (.cells old t (0, 0))) (hi : (P.info? ty).map (·.size) = some cells.size)
    (hold : old.size = cells.size) (h1 : cells.all (·.oneCell') = true) (h : wpListIn F n P ops Q rest (a.put op.dst undef) (w.setRow g cells)) : wpListIn F n P ops Q (op :: rest) a w := by
  refine wpListIn_plain hgd fun K hK => ?_
  unfold Oper.wpIn
  refine ⟨by simp [Oper.about, ho], ?_⟩
  rw [Oper.semAt_plain F _ _ (by rw [ho]; intro c hc'; cases hc')]
  unfold execOp
  simp only [ho, hx, hy, Instr.storeAt, Instr.sureAddr, Sem.run_bind, Sem.run_pure, Result.andThen_ok, run_storeVar_row w g t ty old cells hb hi hold h1]
  exact hK _ _ h
end
/-- What a round keeps: what lay below n, and every row but those of harts and bytes. -/
structure Kr (n : Nat) (w w' : World) : Prop where
  below : Below n w w'
  keep : ∀ (k : Nat) (q : Array Value) (t : Nat) (f : Nat × Nat), w.heap[k]? = some (.cells q t f) → t ≠ 70 → t ≠ 5 → w'.heap[k]? = some (.cells q t f)
theorem Kr.refl (n : Nat) (w : World) : Kr n w w := ⟨Below.refl _ _, fun _ _ _ _ h _ _ => h⟩
theorem Kr.trans {n : Nat} {A B C : World} (h : Kr n A B) (k : Kr n B C) : Kr n A C := ⟨h.below.trans k.below, fun i q t f e t1 t2 => k.keep i q t f (h.keep i q t f e t1 t2) t1 t2⟩
theorem Th.kr {n : Nat} {w w' : World} (h : Th n w w') : Kr n w w' := ⟨h.below, fun k q t f e t1 t2 => h.row e t1 t2⟩
theorem Th.keeps {n B : Nat} {w w' : World} (h : Th n w w') : KeepsFrom B w w' := ⟨h.below.size, fun k o _ e hc => h.keep k o e (fun q f c => by subst c; cases hc) (fun q f c => by subst c; cases hc)⟩
theorem kr_b {n : Nat} {w : World} (hn : n ≤ w.heap.size) (W : World) (l : Nat) (o o' : Obj) (hl : w.heap.size ≤ l) (h : W.heap[l]? = some o) (hc : o.isCells = false) (hw : o.isWalk = false) : Kr n W (W.putObj l o') :=
  ⟨belowK_b hn W l o o' hl h hc hw, fun k q t f e _ _ => by
    have G := grownBy_putObj' W l o'
    refine (G.block k (gs e).1 (fun e2 => ?_)).trans e
    injection e2 with e2
    subst e2
    rw [e] at h
    injection h with h
    subst h
    cases hc⟩
/-- What is handed to a round: an index, an Undo and its cells. -/
def Yv (W0 : World) (c mn : Nat) : Type := { y : Nat × Uv × List Value // Uc W0 y.2.1 y.2.2 ∧ fitU c mn y.2.1 = true }
def Yv.u {W0 : World} {c mn : Nat} (y : Yv W0 c mn) : Uv := y.1.2.1
def Yv.x {W0 : World} {c mn : Nat} (y : Yv W0 c mn) : List Value := y.1.2.2
def Yv.enc {W0 : World} {c mn : Nat} (y : Yv W0 c mn) : Array Value := #[.int .i64 (y.1.1 : Int), .agg y.x.toArray]
set_option maxRecDepth 100000 in
set_option maxHeartbeats 2000000 in
/-- slices.Backward's closure. -/
theorem bwd_in {W0 : World} {c mn : Nat} {ao : Option Addr} {N cap : Nat} {vs : List Uv} (U : Us W0 ao N vs) (hN : N ≤ 140737488351232) (hf : ∀ u ∈ vs, fitU c mn u = true) (m : Nat) (l Bs : Nat) (J Jx : List (Yv W0 c mn) → World → Prop)
    (hY : ∀ pre x W, J pre W → pre.length < N → YieldAt Fence.wide (m - 1) Tryd.prog l (Yv.enc x) W fun e W' => (e = .returned (.bool true) ∧ J (pre ++ [x]) W' ∧ Kr W0.heap.size W W') ∨ (e = .returned (.bool false) ∧ Jx (pre ++ [x]) W'))
    (W : World) (G : Gr W0 W) (hBs : W.heap[Bs]? = some (.cells #[.slice ao N cap] 41 (0, 0))) (h0 : J [] W) :
    CallsIn Fence.wide m Tryd.prog 72 #[.func (.yield l) #[] #[], .pointer (some ⟨Bs, 0, none⟩)] W fun e W' => (∃ v, e = .returned v) ∧ ((∃ ys : List (Yv W0 c mn), ys.map Yv.u = vs.reverse ∧ J ys W') ∨ (∃ pre, Jx pre W')) := by
  have HU : Hid (Us W0 ao N vs) := U
  have HL : Hid (vs.length = N) := U.len
  have b0 := cr0 hBs
  have HB : Hid (W.heap[Bs]? = some (.cells #[.slice ao N cap] 41 (0, 0))) := hBs
  have HG : Hid (Gr W0 W) := G
  have HF : Hid (∀ u ∈ vs, fitU c mn u = true) := hf
  have HYY : Hid _ := hY
  clear hBs U G hf hY
  refine callsIn_of_wp Tryd.func72 rfl trivial ?_ rfl
  simp only [Tryd.ntmps72, List.size_toArray, List.length_cons, List.length_nil, Nat.reduceAdd, Nat.reduceSub, Array.replicate_succ, Array.replicate_zero, List.push_toArray, List.append_toArray, List.nil_append, List.cons_append]
  have e1 : IntKind.i64.wrap ((N : Int) - 1) = (N : Int) - 1 := by simp [IntKind.wrap, IntKind.bits, IntKind.signed]; omega
  gi_wp2
  gi_loopw [3] (fun i wr => ∃ (k : Nat) (pre : List (Yv W0 c mn)), k ≤ N ∧ i = .int .i64 ((k : Int) - 1) ∧ pre.map Yv.u = (vs.drop k).reverse ∧ pre.length + k = N ∧ J pre wr ∧ Kr W0.heap.size W wr) (fun i _ => (intOf i + 1).toNat)
  case atStart => exact ⟨N, [], Nat.le_refl _, by first | rfl | simp, by rw [List.drop_of_length_le (by rw [HL.out]; exact Nat.le_refl _)]; rfl, by simp, h0, Kr.refl _ _⟩
  case round =>
    obtain ⟨k, pre, hk, rfl, hpre, hpl, hJ, hK⟩ := hrel
    have HPre : Hid (pre.map Yv.u = (vs.drop k).reverse) := hpre
    have HK : Hid (Kr W0.heap.size W wr) := hK
    have b1 : wr.cell? ⟨Bs, 0, none⟩ = some (.slice ao N cap) := cr0 (hK.keep _ _ _ _ HB.out (by decide) (by decide))
    clear hpre hK b0
    by_cases hk0 : 0 < k
    · obtain ⟨q, rfl⟩ : ∃ q, k = q + 1 := ⟨k - 1, by omega⟩
      obtain ⟨u, hu⟩ : ∃ u, vs[q]? = some u := ⟨_, List.getElem?_eq_getElem (by rw [HL.out]; omega)⟩
      obtain ⟨b, o, rfl, hb, hc⟩ := HU.out.spot (by omega)
      obtain ⟨x, hx, hr⟩ := hc q u hu
      have RG : Hid (wr.rangeAt b (o + q * 41) x) := rangeAt_of hr hb (Below.trans HG.out HK.out.below)
      have HXL : Hid (x.length = 41) := hx.len
      obtain ⟨Y, hY1, hY2, hY3⟩ : ∃ Y : Yv W0 c mn, Y.1.1 = q ∧ Y.u = u ∧ Y.x = x := ⟨⟨(q, u, x), hx, HF.out u (List.mem_of_getElem? hu)⟩, rfl, rfl, rfl⟩
      have HNx : Hid ((pre ++ [Y]).map Yv.u = (vs.drop q).reverse) := by
        unfold Hid
        rw [List.map_append, HPre.out]
        have e : vs.drop q = u :: vs.drop (q + 1) := by
          obtain ⟨hq, rfl⟩ := List.getElem?_eq_some_iff.1 hu
          exact List.drop_eq_getElem_cons hq
        rw [e, List.reverse_cons]
        simp [hY2]
      obtain ⟨fn, tmps, assign, body, hy, hR⟩ := HYY.out pre Y wr hJ (by omega)
      have HR : Hid (RoundIn Fence.wide (m - 1) Tryd.prog l fn tmps assign body wr _) := hR
      unfold Yv.enc at hy
      rw [hY1, hY3] at hy
      clear hc hr hu hR hY1 hY2 hY3 hJ
      have z1 : (0 : Int) ≤ (q : Int) := by omega
      have z2 : (q : Int) < (N : Int) := by omega
      gi_wp2_with (refine wpListIn_load_mid rfl 86 _ rfl b (o + q * 41) rfl x _ ?r1 Tryd.underlying86 rfl (by rw [HXL.out]; exact iU) ?_; (case r1 => exact RG.out))
      refine ⟨fun hd => (by cases hd), ?_⟩
      refine RoundIn.mono HR.out ?_
      rintro e W3 (⟨rfl, hJ3, hk3⟩ | ⟨rfl, hJx3⟩)
      · have HK3 : Hid (Kr W0.heap.size W W3) := HK.out.trans hk3
        have HJ3 : Hid (J (pre ++ [Y]) W3) := hJ3
        have e3 : IntKind.i64.wrap ((q : Int) - 1) = (q : Int) - 1 := by simp [IntKind.wrap, IntKind.bits, IntKind.signed]; omega
        clear hk3 hJ3
        gi_wp2
        go_roundw
        case rel => exact ⟨q, pre ++ [Y], by omega, by first | rfl | simp, HNx.out, by simp; omega, HJ3.out, HK3.out⟩
        case measure => simp [intOf]
      · gi_wp2
        refine bodyPost_ret (results_none rfl _ _ _) rfl ?_
        exact ⟨⟨_, rfl⟩, .inr ⟨_, hJx3⟩⟩
    · obtain rfl : k = 0 := by omega
      have e : pre.map Yv.u = vs.reverse := by have := HPre.out; rwa [List.drop_zero] at this
      gi_wp2
      go_end0
      exact ⟨⟨_, rfl⟩, .inl ⟨pre, e, hJ⟩⟩
/-- slices.Backward: the slice is boxed; the function value captures the box. -/
theorem Backward_any (a : Option Addr) (len cap : Nat) (w : World) : Calls Tryd.prog 38 #[.slice a len cap] w fun e w' => e = .returned (.func (.func 72) #[] #[.pointer (some ⟨w.heap.size, 0, none⟩)]) ∧ w' = w.alloc (.cells #[.slice a len cap] 41) := by
  go_enter Tryd.func38, Tryd.ntmps38
  go_wp2
  go_ret
  exact ⟨rfl, rfl⟩
theorem bwd_stops {W0 : World} {c mn : Nat} {ao : Option Addr} {N cap : Nat} {vs : List Uv} (U : Us W0 ao N vs) (hN : N ≤ 140737488351232) (hf : ∀ u ∈ vs, fitU c mn u = true) (m : Nat) (Bs : Nat) (w : World) (G : Gr W0 w) (hBs : w.heap[Bs]? = some (.cells #[.slice ao N cap] 41 (0, 0))) :
    SeqStopsK Fence.wide m Tryd.prog 72 #[.pointer (some ⟨Bs, 0, none⟩)] (Yv.enc (W0 := W0) (c := c) (mn := mn)) (Kr W0.heap.size) (fun ys => ys.map Yv.u = vs.reverse) (fun _ => True) N w := fun l J Jx W hW _ _ hY h0 => by
  refine (bwd_in U hN hf m l Bs J Jx hY W (Below.trans G (Below.mono hW G.size)) ((hW.block _ (gs hBs).1).trans hBs) h0).mono ?_
  rintro e W' ⟨he, h | ⟨pre, h⟩⟩
  · exact ⟨he, .inl h⟩
  · exact ⟨he, .inr ⟨pre, trivial, h⟩⟩
end Go.Proofs.YtdiofidmlgliiaaDoor.Ud
