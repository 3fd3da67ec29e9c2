/-
  Ref5a, Hk, Heq, Hw, Mb1, Ref1Walks, Ref1Alu, Ref4a, Ref3Walks, Ref4b: texts of ours that lie in one file.
-/
import Derived.Test.YtchllaeembmioaaGreatDoorQ14
import Derived.Test.YtchllaeembmioaaGreatDoorQ03
import Derived.Great.BuildSlice
import Derived.ChangeKeysEq
import Derived.Laws.StructEq
import Derived.Test.YtchllaeembmioaaGreatDoorQ05
import Derived.Test.YtchllaeembmioaaGreatDoorRows
import Derived.Test.YtchllaeembmioaaGreatDoorQ01
import Derived.WalkKit
import Derived.ProofKit
import Derived.OpenShut
import Derived.Deep.QuietTactic
import Derived.BigQuiet
import Derived.Deep.RegionWith
set_option linter.unusedVariables false
set_option linter.unusedSimpArgs false
set_option maxHeartbeats 8000000
set_option maxRecDepth 100000
namespace Go.Proofs.YtchllaeembmioaaGreatDoor.Mc
open Go.ChangeShapes Go.WideShapes Go.ChangeAt Go.RowKit Mm Hh

theorem iH : (Tryz.prog.info? 51).map (·.size) = some 37 := by kernel_rfl
theorem Wrong_any (hmay : ∀ (h : Hv), h.Ok → ∀ W : World, Calls Tryz.prog 16 #[.agg (hA h)] W fun e w' => e = .returned (.bool (may h)) ∧ Gr W w')
  {ma ha pa : Option Addr} {hn pn : Nat} (mc hc pc : Nat) {m : List UInt8} {hs : List Hv} {ps : List (Int × Int)} {w : World} (mn : Nat) (hmn : m.length = mn) (H : Hs w ha hn hs) (P : Ps w pa pn ps) (b1 : mn ≤ 140737488351232) (b2 : hn ≤ 140737488351232) (b3 : pn ≤ 140737488351232) :
  Calls Tryz.prog 6 #[.agg #[.slice ma mn mc, .slice ha hn hc], .slice pa pn pc] w fun e w' => e = .returned (.int .i64 (wrong m hs ps)) ∧ Gr w w' := by
 have hl := H.len
 have pl := P.len
 by_cases c1 : 4096 < mn ∨ hn < 1 ∨ 4 < hn
 ·have HE : Hid (wrong m hs ps = 2) := by unfold Hid wrong; rw [if_pos (by omega)]
  clear H P hmay
  have c2 : 4096 < mn ∨ (¬ 4096 < mn ∧ hn < 1) ∨ (¬ 4096 < mn ∧ ¬ hn < 1 ∧ 4 < hn) := by omega
  clear c1
  rcases c2 with c | ⟨c, d⟩ | ⟨c, d, e⟩
  all_goals
   go_enter Tryz.func6, Tryz.ntmps6
   go_wp2
   go_ret
   exact ⟨ret_int HE.out.symm, (Gr.refl _).alloc _⟩
 ·have n1 : ¬ 4096 < mn := by omega
  have n2 : ¬ hn < 1 := by omega
  have n3 : ¬ 4 < hn := by omega
  obtain ⟨b, o, rfl, hb, hcell⟩ := H.spot (by omega)
  have HW : Hid (wrong m hs ps = if hs.all may = false then 2 else if 300 < ps.length then 1 else if ps.all (pickOk hs.length) = false then 3 else 0) := by unfold Hid wrong; rw [if_neg (by omega)]
  have HK : Hid (∀ i h, hs[i]? = some h → w.rangeAt b (o + i * 37) (hL h)) := hcell
  have HO : Hid (∀ h ∈ hs, h.Ok) := H.ok
  have HP : Hid (Ps w pa pn ps) := P
  have HM : Hid (∀ (h : Hv), h.Ok → ∀ W : World, Calls Tryz.prog 16 #[.agg (hA h)] W fun e w' => e = .returned (.bool (may h)) ∧ Gr W w') := hmay
  have HL : Hid (hs.length = hn) := hl
  have PL : Hid (ps.length = pn) := pl
  clear hcell H P hmay c1 hl pl hmn
  go_enter Tryz.func6, Tryz.ntmps6
  go_wp2
  go_loopw [5] (fun i wr => ∃ k : Nat, k ≤ hn ∧ i = .int .i64 k ∧ (hs.take k).all may = true ∧ Gr (w.alloc (.cells #[.slice ma mn mc, .slice (some ⟨b, o, none⟩) hn hc] 25)) wr) (fun i _ => hn - (intOf i).toNat)
  case atStart => exact ⟨0, Nat.zero_le _, rfl, rfl, Gr.refl _⟩
  case round =>
   obtain ⟨k, hk, rfl, hall, G⟩ := hrel
   have HB : Hid (wr.heap[w.heap.size]? = some (.cells #[.slice ma mn mc, .slice (some ⟨b, o, none⟩) hn hc] 25 (0, 0))) := (G.block _ (by simp)).trans (heap_alloc_new w _)
   have k1 : wr.cell? ⟨w.heap.size, 1, none⟩ = some (.slice (some ⟨b, o, none⟩) hn hc) := cell_of_row _ _ _ _ _ _ HB.out
   have HG : Hid (Gr (w.alloc (.cells #[.slice ma mn mc, .slice (some ⟨b, o, none⟩) hn hc] 25)) wr) := G
   have HA : Hid ((hs.take k).all may = true) := hall
   clear G hall
   by_cases hlt : k < hn
   ·obtain ⟨h, hh⟩ : ∃ h, hs[k]? = some h := ⟨_, List.getElem?_eq_getElem (by rw [HL.out]; exact hlt)⟩
    have HH : Hid (hs[k]? = some h) := hh
    have okh := HO.out h (List.mem_of_getElem? hh)
    have RG : Hid (wr.rangeAt b (o + k * 37) (hL h)) := fun j v hv => (HG.out.cell _ (by simp; omega)).trans (((Gr.refl w).alloc _).cell _ (by exact hb) |>.trans (HK.out k h hh j v hv))
    have HLL : Hid ((hL h).length = 37) := hL_len okh
    have M1 : Hid (∀ W : World, Calls Tryz.prog 16 #[.agg (hL h).toArray] W fun e w' => e = .returned (.bool (may h)) ∧ Gr W w') := fun W => HM.out h okh W
    clear hh okh
    cases hmb : may h with
    | true =>
     have M2 : Hid (∀ W : World, Calls Tryz.prog 16 #[.agg (hL h).toArray] W fun e w' => e = .returned (.bool true) ∧ Gr W w') := fun W => by have := M1.out W; rwa [hmb] at this
     have HN : Hid ((hs.take (k + 1)).all may = true) := by unfold Hid; rw [all_take may hs k h HH.out, HA.out, hmb]; rfl
     clear M1 hmb
     go_wp2_with (refine wpList_load_mid rfl 51 _ rfl b (o + k * 37) rfl (hL h) _ ?r1 Tryz.underlying51 rfl (by rw [HLL.out]; exact iH) ?_; (case r1 => exact RG.out))
     refine (M2.out _).mono ?_
     rintro e w1 ⟨rfl, G1⟩
     have HG1 : Hid (Gr (w.alloc (.cells #[.slice ma mn mc, .slice (some ⟨b, o, none⟩) hn hc] 25)) w1) := HG.out.trans G1
     clear G1 M2 k1 HG HB RG
     go_wp2_with fail
     go_roundw
     case rel => exact ⟨k + 1, by omega, by go_num, HN.out, HG1.out⟩
     case measure => simp [intOf]; omega
    | false =>
     have M2 : Hid (∀ W : World, Calls Tryz.prog 16 #[.agg (hL h).toArray] W fun e w' => e = .returned (.bool false) ∧ Gr W w') := fun W => by have := M1.out W; rwa [hmb] at this
     have HE : Hid (wrong m hs ps = 2) := by unfold Hid; rw [HW.out, if_pos (all_false HH.out hmb)]
     clear M1 hmb
     go_wp2_with (refine wpList_load_mid rfl 51 _ rfl b (o + k * 37) rfl (hL h) _ ?r1 Tryz.underlying51 rfl (by rw [HLL.out]; exact iH) ?_; (case r1 => exact RG.out))
     refine (M2.out _).mono ?_
     rintro e w1 ⟨rfl, G1⟩
     have HG1 : Hid (Gr w w1) := ((Gr.refl _).alloc _).trans (HG.out.trans G1)
     clear G1 M2 k1 HG HB RG
     go_wp2_with fail
     go_ret
     exact ⟨ret_int HE.out.symm, HG1.out⟩
   ·have ek : k = hn := by omega
    have HAll : Hid (hs.all may = true) := by have := HA.out; rw [ek, ← HL.out, List.take_length] at this; exact this
    have HW2 : Hid (wrong m hs ps = if 300 < ps.length then 1 else if ps.all (pickOk hs.length) = false then 3 else 0) := by unfold Hid; rw [HW.out, HAll.out, if_neg (by simp)]
    have HG1 : Hid (Gr w wr) := ((Gr.refl _).alloc _).trans HG.out
    clear ek HA HW HAll
    by_cases c3 : 300 < pn
    ·have HE : Hid (wrong m hs ps = 1) := by unfold Hid; rw [HW2.out, PL.out, if_pos c3]
     go_wp2_with fail
     go_ret
     exact ⟨ret_int HE.out.symm, HG1.out⟩
    ·have HW3 : Hid (wrong m hs ps = if ps.all (pickOk hn) = false then 3 else 0) := by unfold Hid; rw [HW2.out, PL.out, HL.out, if_neg c3]
     clear HW2
     by_cases p0 : pn = 0
     ·subst p0
      have HE : Hid (wrong m hs ps = 0) := by
       have : ps = [] := List.eq_nil_of_length_eq_zero PL.out
       unfold Hid; rw [HW3.out, this]; rfl
      go_wp2_with fail
      go_loopw [6] (fun i wq => i = .int .i64 0 ∧ wq = wr) (fun _ _ => 0)
      case atStart => exact ⟨rfl, rfl⟩
      case round =>
       obtain ⟨rfl, rfl⟩ := hrel
       go_wp2
       go_ret
       exact ⟨ret_int HE.out.symm, HG1.out⟩
     ·obtain ⟨b', o', rfl, hb', hcell'⟩ := HP.out.spot (by omega)
      have HC : Hid (∀ i p, ps[i]? = some p → wr.cell? ⟨b', o' + i * 2, none⟩ = some (.int .i64 p.1) ∧ wr.cell? ⟨b', o' + i * 2 + 1, none⟩ = some (.int .i64 p.2)) := fun i p hp => ⟨(HG1.out.cell _ (by exact hb')).trans (hcell' i p hp).1, (HG1.out.cell _ (by exact hb')).trans (hcell' i p hp).2⟩
      clear hcell'
      go_wp2_with fail
      go_loopw [6] (fun i wq => ∃ j : Nat, j ≤ pn ∧ i = .int .i64 j ∧ (ps.take j).all (pickOk hn) = true ∧ ∃ q, wq = wr.drewN q) (fun i _ => pn - (intOf i).toNat)
      case atStart => exact ⟨0, Nat.zero_le _, rfl, rfl, 0, rfl⟩
      case round =>
       obtain ⟨j, hj, rfl, hall, q, rfl⟩ := hrel
       have HA : Hid ((ps.take j).all (pickOk hn) = true) := hall
       clear hall
       by_cases hlt2 : j < pn
       ·obtain ⟨p, hp⟩ : ∃ p, ps[j]? = some p := ⟨_, List.getElem?_eq_getElem (by rw [PL.out]; exact hlt2)⟩
        obtain ⟨q0, q1⟩ := HC.out j p hp
        have HE : Hid (¬ (0 ≤ p.1 ∧ p.1 < hn ∧ 0 ≤ p.2 ∧ p.2 ≤ 400) → wrong m hs ps = 3) := fun hno => by rw [HW3.out, if_pos (all_false hp (by unfold pickOk; exact decide_eq_false hno))]
        have HN : Hid ((0 ≤ p.1 ∧ p.1 < hn ∧ 0 ≤ p.2 ∧ p.2 ≤ 400) → (ps.take (j + 1)).all (pickOk hn) = true) := fun hy => by
         rw [all_take _ ps j p hp, HA.out, show pickOk hn p = true by unfold pickOk; exact decide_eq_true hy]; rfl
        clear hp
        obtain ⟨x, y⟩ := p
        simp only at *
        have hc : x < 0 ∨ (¬ x < 0 ∧ (hn : Int) ≤ x) ∨ (¬ x < 0 ∧ ¬ (hn : Int) ≤ x ∧ y < 0) ∨ (¬ x < 0 ∧ ¬ (hn : Int) ≤ x ∧ ¬ y < 0 ∧ 400 < y) ∨ (¬ x < 0 ∧ ¬ (hn : Int) ≤ x ∧ ¬ y < 0 ∧ ¬ 400 < y) := by omega
        rcases hc with h1 | ⟨h1, h2⟩ | ⟨h1, h2, h3⟩ | ⟨h1, h2, h3, h4⟩ | ⟨h1, h2, h3, h4⟩
        ·have d1 : decide (x < 0) = true := by simpa using h1
         go_wp2_with fail
         go_quiet (fail)
         go_wp2_with fail
         go_ret
         exact ⟨ret_int (HE.out (by omega)).symm, (HG1.out.drewN _).drewN _⟩
        ·have d1 : decide (x < 0) = false := by simpa using h1
         have d2 : decide ((hn : Int) ≤ x) = true := by simpa using h2
         go_wp2_with fail
         go_quiet (fail)
         go_wp2_with fail
         go_ret
         exact ⟨ret_int (HE.out (by omega)).symm, (HG1.out.drewN _).drewN _⟩
        ·have d1 : decide (x < 0) = false := by simpa using h1
         have d2 : decide ((hn : Int) ≤ x) = false := by simpa using h2
         have d3 : decide (y < 0) = true := by simpa using h3
         go_wp2_with fail
         go_quiet (fail)
         go_wp2_with fail
         go_ret
         exact ⟨ret_int (HE.out (by omega)).symm, (HG1.out.drewN _).drewN _⟩
        ·have d1 : decide (x < 0) = false := by simpa using h1
         have d2 : decide ((hn : Int) ≤ x) = false := by simpa using h2
         have d3 : decide (y < 0) = false := by simpa using h3
         have d4 : decide (400 < y) = true := by simpa using h4
         go_wp2_with fail
         go_quiet (fail)
         go_wp2_with fail
         go_ret
         exact ⟨ret_int (HE.out (by omega)).symm, (HG1.out.drewN _).drewN _⟩
        ·have d1 : decide (x < 0) = false := by simpa using h1
         have d2 : decide ((hn : Int) ≤ x) = false := by simpa using h2
         have d3 : decide (y < 0) = false := by simpa using h3
         have d4 : decide (400 < y) = false := by simpa using h4
         go_wp2_with fail
         go_quiet (fail)
         go_wp2_with fail
         go_roundw
         case rel => exact ⟨j + 1, by omega, by go_num, HN.out (by omega), _, rfl⟩
         case measure => simp [intOf]; omega
       ·have HE : Hid (wrong m hs ps = 0) := by
         have e : (ps.take j).all (pickOk hn) = true := HA.out
         rw [show j = pn by omega, ← PL.out, List.take_length] at e
         unfold Hid; rw [HW3.out, e]; rfl
        go_wp2
        go_ret
        exact ⟨ret_int HE.out.symm, HG1.out.drewN _⟩
end Go.Proofs.YtchllaeembmioaaGreatDoor.Mc
namespace Go.Proofs.YtchllaeembmioaaGreatDoor.Hc
open Go.ChangeShapes Go.WideShapes Go.ChangeAt Go.RowKit Mm Hh

theorem fold_set (off : Nat) (v cs : Array Value) : (v.zipIdx.foldl (fun cs (x : Value × Nat) => cs.setIfInBounds (off + x.2) x.1) cs).size = cs.size ∧
  ∀ k, (v.zipIdx.foldl (fun cs (x : Value × Nat) => cs.setIfInBounds (off + x.2) x.1) cs)[k]? = if off ≤ k ∧ k < off + v.size ∧ k < cs.size then v[k - off]? else cs[k]? := by
 have h := Great.foldl_set off v.toList 0 cs
 rw [← Array.foldl_toList, Array.toList_zipIdx]
 refine ⟨h.1, fun k => ?_⟩
 rw [h.2 k]
 simp
theorem built_two {P : Program} {t : TypeId} {it : TypeInfo} {z : Value} {fs : Array Field} {ps : List (Nat × Nat)} (hi : P.info? t = some it) (hu : P.underlying t = some (.struct fs)) (hz : it.zero = some z)
  (hp : fs.toList.mapM (fun f => (P.info? f.type).map fun i => (f.offset, i.size)) = some ps) {n : Nat} (p0 : ps.toArray[0]? = some (0, n)) (p1 : ps.toArray[1]? = some (n, 1)) (A : Array Value) (hA : A.size = n) (v : Value) (hv : v.cells = #[v]) (hs : n + 1 ≤ z.cells.size)
  (R : Array Value) (hR : R.size = z.cells.size) (h1 : ∀ k, k < n → R[k]? = A[k]?) (h2 : R[n]? = some v) (h3 : ∀ k, n < k → R[k]? = z.cells[k]?) : P.built t [(0, .agg A), (1, v)] = some R := by
 unfold Program.built
 simp only [hi, hu, hz, hp]
 have a1 := fold_set 0 A z.cells
 have a2 := fold_set n #[v] (A.zipIdx.foldl (fun cs (x : Value × Nat) => cs.setIfInBounds (0 + x.2) x.1) z.cells)
 unfold Instr.fill
 simp only [p0]
 have e : (Value.agg A).cells = A := rfl
 rw [e, if_neg (by simp [hA]; omega)]
 unfold Instr.fill
 simp only [p1]
 rw [hv, if_neg (by rw [a1.1]; simp; omega)]
 unfold Instr.fill
 congr 1
 apply Array.ext_getElem?
 intro k
 rw [a2.2 k, a1.2 k, a1.1]
 by_cases hk : k < n
 ·rw [if_neg (by omega), if_pos (by omega), h1 k hk]; simp
 ·by_cases hk2 : k = n
  ·subst hk2
   rw [if_pos (by simp; omega), h2]; simp
  ·rw [if_neg (by simp; omega), if_neg (by omega), h3 k (by omega)]
theorem info_zero {P : Program} {t : TypeId} {v : Value} (h : (P.info? t).bind (·.zero) = some v) : ∃ it, P.info? t = some it ∧ it.zero = some v := by
 cases hi : P.info? t with
 | none => simp [hi] at h
 | some it => exact ⟨it, rfl, by simpa [hi] using h⟩

def h0 : Hv := ⟨List.replicate 32 0, 0, false, 0, 0, 0⟩
theorem h0_ok : h0.Ok := ⟨rfl, fun i => by unfold rg h0; simp only [List.getD, List.getElem?_replicate]; split <;> simp, by decide, by decide, by decide, by decide⟩
def nilS : Value := .slice none 0 0
theorem one_cA (c : Cv) (h1 : c.m.oneCell' = true) (h2 : c.out.oneCell' = true) (h3 : c.sto.oneCell' = true) : (cA c).all (·.oneCell') = true := by
 refine all_oneCell_toArray ?_
 intro v hv
 simp only [hL, List.mem_append, List.mem_map, List.mem_cons, List.not_mem_nil, or_false] at hv
 rcases hv with (⟨n, _, rfl⟩ | rfl | rfl | rfl | rfl | rfl) | rfl | rfl | rfl <;> first | rfl | assumption
theorem zCore : (Tryz.prog.info? 115).bind (·.zero) = some (.agg (cA ⟨h0, nilS, nilS, nilS⟩)) := by kernel_rfl
theorem built_core {h : Hv} (o : h.Ok) (v : Value) (hv : v.cells = #[v]) : Tryz.prog.built 115 [(0, .agg (hA h)), (1, v)] = some (cA ⟨h, v, nilS, nilS⟩) := by
 obtain ⟨it, hi, hz⟩ := info_zero zCore
 have hl := hL_len o
 have z := hL_len h0_ok
 refine built_two (n := 37) hi Tryz.underlying115 hz (ps := [(0, 37), (37, 1), (38, 1), (39, 1)]) (by kernel_rfl) rfl rfl (hA h) (hA_size o) v hv (by show 38 ≤ (cA _).size; rw [cA_size h0_ok]; omega) _ ?_ ?_ ?_ ?_
 ·show (cA _).size = (cA _).size; rw [cA_size (c := ⟨h, v, nilS, nilS⟩) o, cA_size h0_ok]
 ·intro k hk; rw [cA_get (c := ⟨h, v, nilS, nilS⟩) o hk]; simp [hA]
 ·exact cA_fld (c := ⟨h, v, nilS, nilS⟩) o 0
 ·intro k hk
  obtain ⟨j, rfl⟩ : ∃ j, k = 37 + (j + 1) := ⟨k - 38, by omega⟩
  show (cA _)[_]? = (cA _)[_]?
  rw [cA_fld (c := ⟨h, v, nilS, nilS⟩) o, cA_fld (c := ⟨h0, nilS, nilS, nilS⟩) h0_ok]
  rfl
theorem step_load {P : Program} {ops : Array Oper} {o : Oper} {a : Act} {w : World} {K : Act → World → Prop} {Q : Exit → Act → World → Prop} {E : Prop} (hg : o.guard = none) (ty : TypeId) (x : Operand) (ho : o.op = .load ty x)
  (b : Nat) (hx : a.eval x = .pointer (some ⟨b, 0, none⟩)) (cs : List Value) (d : TypeDesc) (hc : w.rangeAt b 0 cs) (hu : P.underlying ty = some d) (hd : d.isRow = true) (hi : (P.info? ty).map (·.size) = some cs.length)
  (h : K (a.put o.dst (.agg cs.toArray)) w) : if Region.wanted o (yielded ops a.tmps) = true then Oper.wp P o a w K Q else E := by
 rw [if_pos (by simp [Region.wanted, hg])]
 exact wp_load_mid ty x ho b 0 hx cs d hc hu hd hi h
theorem step_build {P : Program} {ops : Array Oper} {o : Oper} {a : Act} {w : World} {K : Act → World → Prop} {Q : Exit → Act → World → Prop} {E : Prop} (hg : o.guard = none) (t : TypeId) (parts : Array (Nat × Operand)) (ho : o.op = .build t parts)
  (cells : Array Value) (hf : P.built t (parts.map fun (i, x) => (i, a.eval x)).toList = some cells) (h : K (a.put o.dst (.agg cells)) w) : if Region.wanted o (yielded ops a.tmps) = true then Oper.wp P o a w K Q else E := by
 rw [if_pos (by simp [Region.wanted, hg])]
 unfold Oper.wp execOp
 simp only [ho, Sem.run_bind, run_build w t _ _ hf, Result.andThen_ok]
 exact h
theorem step_store {P : Program} {ops : Array Oper} {o : Oper} {a : Act} {w : World} {K : Act → World → Prop} {Q : Exit → Act → World → Prop} {E : Prop} (hg : o.guard = none) (ty : TypeId) (x y : Operand) (ho : o.op = .store ty x y)
  (g : Nat) (cells : Array Value) (hx : a.eval x = .pointer (some ⟨g, 0, none⟩)) (hy : a.eval y = .agg cells) (t : TypeId) (old : Array Value) (hb : w.heap[g]? = some (.cells old t (0, 0))) (hi : (P.info? ty).map (·.size) = some cells.size)
  (hold : old.size = cells.size) (h1 : cells.all (·.oneCell') = true) (h : K (a.put o.dst undef) (w.setRow g cells)) : if Region.wanted o (yielded ops a.tmps) = true then Oper.wp P o a w K Q else E := by
 rw [if_pos (by simp [Region.wanted, hg])]
 unfold Oper.wp execOp
 simp only [ho, hx, hy, Instr.storeAt, Instr.sureAddr, Sem.run_bind, Sem.run_pure, Result.andThen_ok, run_storeVar_row w g t ty old cells hb hi hold h1]
 exact h
end Go.Proofs.YtchllaeembmioaaGreatDoor.Hc
namespace Go.Proofs.YtchllaeembmioaaGreatDoor.Hc
open Go.ChangeShapes Go.WideShapes Go.ChangeAt Go.RowKit Mm Hh

end Go.Proofs.YtchllaeembmioaaGreatDoor.Hc
namespace Go.Proofs.YtchllaeembmioaaGreatDoor.Hc
open Go.ChangeShapes Go.WideShapes Go.ChangeAt Go.RowKit Mm Hh

structure Wm (w : World) (ao : Option Addr) (n : Nat) (os : List Int) : Prop where
 len : os.length = n
 nil : ao = none → n = 0
 cell : ∀ ad, ao = some ad → ∀ t, t < n → w.cell? (ad.add t) = some (.int .u32 (os.getD t 0))
theorem wm_own {w : World} {base n : Nat} {v : Value} {os : List Int} (hl : os.length = n) (h : w.ownsRow base 42 1 v n (os.map (Value.int .u32))) : ∃ ao cap, v = .slice ao n cap ∧ Wm w ao n os := by
 obtain ⟨_, h⟩ := h
 rcases h with ⟨rfl, h0⟩ | ⟨g, cap, cur, rfl, hb, hg, hn, hm, hs, ht⟩
 ·subst h0
  exact ⟨none, 0, rfl, hl, fun _ => rfl, fun ad e => (by cases e)⟩
 ·refine ⟨_, cap, rfl, hl, fun e => (by cases e), fun ad e t htn => ?_⟩
  obtain rfl := Option.some.inj e
  rw [add_at, Nat.zero_add, cell_of_row _ _ _ _ _ _ hg]
  have h1 : (cur.toList.take (n * 1))[t]? = some (.int .u32 (os.getD t 0)) := by
   rw [ht, List.getElem?_map]
   simp [List.getD, List.getElem?_eq_getElem (show t < os.length by omega)]
  rw [List.getElem?_take_of_lt (by omega)] at h1
  simpa using h1

section
variable {P : Program} {ops : Array Oper} {rest : List Oper} {op : Oper} {a : Act} {w : World} {Q : Exit → Act → World → Prop}
end
end Go.Proofs.YtchllaeembmioaaGreatDoor.Hc
namespace Go.Proofs.YtchllaeembmioaaGreatDoor.Mc
open Go.ChangeShapes Go.WideShapes Go.ChangeAt Go.RowKit Mm Hh Hc

theorem ret_bool {a b : Bool} (h : a = b) : Ending.returned (.bool a) = .returned (.bool b) := by rw [h]
theorem meets_any {x f t : Int} (hx0 : 0 ≤ x) (hx : x < 4294967296) (hf0 : 0 ≤ f) (hf : f < 4294967296) (w : World) :
  Calls Tryz.prog 65 #[.int .u32 x, .agg #[.int .u32 f, .int .u32 t]] w fun e w' => e = .returned (.bool (decide (x < t) && decide (f < x + 4))) ∧ Gr w w' := by
 by_cases h1 : x < t
 ·have HE : Hid ((decide (x < t) && decide (f < x + 4)) = decide (f < x + 4)) := by unfold Hid; simp [h1]
  rw [HE.out]
  go_enter Tryz.func65, Tryz.ntmps65
  go_wp2
  go_ret
  exact ⟨rfl, (Gr.refl _).alloc _⟩
 ·have HE : Hid ((decide (x < t) && decide (f < x + 4)) = false) := by unfold Hid; simp [h1]
  rw [HE.out]
  go_enter Tryz.func65, Tryz.ntmps65
  go_wp2
  go_ret
  exact ⟨rfl, (Gr.refl _).alloc _⟩

def mayM (mn : Nat) (hs : List Hv) : Bool := decide (mn ≤ 4096 ∧ 1 ≤ hs.length ∧ hs.length ≤ 4) && hs.all may
theorem wrong_may (m : List UInt8) (hs : List Hv) (ps : List (Int × Int)) : wrong m hs ps = if mayM m.length hs = false then 2 else if 300 < ps.length then 1 else if ps.all (pickOk hs.length) = false then 3 else 0 := by
 unfold wrong mayM
 by_cases h : 4096 < m.length ∨ hs.length < 1 ∨ 4 < hs.length
 ·rw [if_pos h, if_pos]; rw [decide_eq_false (by omega)]; rfl
 ·rw [if_neg h, decide_eq_true (show m.length ≤ 4096 ∧ 1 ≤ hs.length ∧ hs.length ≤ 4 by omega)]; simp only [Bool.true_and]

theorem MMay_any {ma ha : Option Addr} {hn : Nat} (mc hc : Nat) {hs : List Hv} {w : World} (mn : Nat) (H : Hs w ha hn hs) (b1 : mn ≤ 140737488351232) (b2 : hn ≤ 140737488351232) :
  Calls Tryz.prog 51 #[.agg #[.slice ma mn mc, .slice ha hn hc]] w fun e w' => e = .returned (.bool (mayM mn hs)) ∧ Gr w w' := by
 have hl := H.len
 by_cases c1 : 4096 < mn ∨ hn < 1 ∨ 4 < hn
 ·have HE : Hid (mayM mn hs = false) := by unfold Hid mayM; rw [decide_eq_false (by omega)]; rfl
  clear H
  have c2 : 4096 < mn ∨ (¬ 4096 < mn ∧ hn < 1) ∨ (¬ 4096 < mn ∧ ¬ hn < 1 ∧ 4 < hn) := by omega
  clear c1
  rcases c2 with c | ⟨c, d⟩ | ⟨c, d, e⟩
  all_goals
   go_enter Tryz.func51, Tryz.ntmps51
   go_wp2
   go_ret
   exact ⟨ret_bool HE.out.symm, (Gr.refl _).alloc _⟩
 ·have n1 : ¬ 4096 < mn := by omega
  have n2 : ¬ hn < 1 := by omega
  have n3 : ¬ 4 < hn := by omega
  obtain ⟨b, o, rfl, hb, hcell⟩ := H.spot (by omega)
  have HW : Hid (mayM mn hs = hs.all may) := by unfold Hid mayM; rw [decide_eq_true (by omega)]; rfl
  have HK : Hid (∀ i h, hs[i]? = some h → w.rangeAt b (o + i * 37) (hL h)) := hcell
  have HO : Hid (∀ h ∈ hs, h.Ok) := H.ok
  have HL : Hid (hs.length = hn) := hl
  clear hcell H c1 hl
  go_enter Tryz.func51, Tryz.ntmps51
  go_wp2
  go_loopw [24] (fun i wr => ∃ k : Nat, k ≤ hn ∧ i = .int .i64 k ∧ (hs.take k).all may = true ∧ Gr w wr) (fun i _ => hn - (intOf i).toNat)
  case atStart => exact ⟨0, Nat.zero_le _, rfl, rfl, (Gr.refl _).alloc _⟩
  case round =>
   obtain ⟨k, hk, rfl, hall, G⟩ := hrel
   have HG : Hid (Gr w wr) := G
   have HA : Hid ((hs.take k).all may = true) := hall
   clear G hall
   by_cases hlt : k < hn
   ·obtain ⟨h, hh⟩ : ∃ h, hs[k]? = some h := ⟨_, List.getElem?_eq_getElem (by rw [HL.out]; exact hlt)⟩
    have HH : Hid (hs[k]? = some h) := hh
    have okh := HO.out h (List.mem_of_getElem? hh)
    have RG : Hid (wr.rangeAt b (o + k * 37) (hL h)) := fun j v hv => (HG.out.cell _ (by exact hb)).trans (HK.out k h hh j v hv)
    have HLL : Hid ((hL h).length = 37) := hL_len okh
    have HSZ : Hid ((hL h).toArray.size = 37) := by unfold Hid; simp [HLL.out]
    have HONE : Hid ((hL h).toArray.all (·.oneCell') = true) := one_hA h
    have M1 : Hid (∀ W : World, Calls Tryz.prog 69 #[.agg (hL h).toArray] W fun e w' => e = .returned (.bool (may h)) ∧ Gr W w') := fun W => may_any okh W
    have HW4 : Hid (∀ Y : Array Value, Gr wr ((wr.alloc (.cells Y 51)).setRow wr.heap.size (hL h).toArray)) := fun Y => gr_setRow ((Gr.refl _).alloc _) (Nat.le_refl _) _
    have HX4 : Hid (∀ Y : Array Value, ((wr.alloc (.cells Y 51)).setRow wr.heap.size (hL h).toArray).heap[wr.heap.size]? = some (.cells (hL h).toArray 51 (0, 0))) := fun Y => setRow_heap _ _ _ _ _ (0, 0) (heap_alloc_new wr _)
    clear hh okh
    cases hmb : may h with
    | true =>
     have M2 : Hid (∀ W : World, Calls Tryz.prog 69 #[.agg (hL h).toArray] W fun e w' => e = .returned (.bool true) ∧ Gr W w') := fun W => by have := M1.out W; rwa [hmb] at this
     have HN : Hid ((hs.take (k + 1)).all may = true) := by unfold Hid; rw [all_take may hs k h HH.out, HA.out, hmb]; rfl
     clear M1 hmb
     go_wp2_with (first
      | (refine wpList_load_mid rfl 51 _ rfl b (o + k * 37) rfl (hL h) _ ?r1 Tryz.underlying51 rfl (by rw [HLL.out]; exact iH) ?_; (case r1 => exact RG.out))
      | (refine wpList_store_row rfl 51 _ _ rfl wr.heap.size (hL h).toArray rfl rfl 51 _ (heap_alloc_new wr _) (by rw [HSZ.out]; exact iH) (by rw [HSZ.out]; rfl) HONE.out ?_)
      | (refine wpList_load_row rfl 51 _ rfl wr.heap.size rfl 51 (hL h).toArray (0, 0) _ ?r2 Tryz.underlying51 rfl (by rw [HSZ.out]; exact iH) ?_; (case r2 => exact HX4.out _)))
     refine (M2.out _).mono ?_
     rintro e w1 ⟨rfl, G1⟩
     have HG1 : Hid (Gr w w1) := HG.out.trans ((HW4.out _).trans G1)
     clear G1 M2 HG RG HW4 HX4
     go_wp2_with fail
     go_roundw
     case rel => exact ⟨k + 1, by omega, by go_num, HN.out, HG1.out⟩
     case measure => simp [intOf]; omega
    | false =>
     have M2 : Hid (∀ W : World, Calls Tryz.prog 69 #[.agg (hL h).toArray] W fun e w' => e = .returned (.bool false) ∧ Gr W w') := fun W => by have := M1.out W; rwa [hmb] at this
     have HE : Hid (mayM mn hs = false) := by unfold Hid; rw [HW.out]; exact all_false HH.out hmb
     clear M1 hmb
     go_wp2_with (first
      | (refine wpList_load_mid rfl 51 _ rfl b (o + k * 37) rfl (hL h) _ ?r1 Tryz.underlying51 rfl (by rw [HLL.out]; exact iH) ?_; (case r1 => exact RG.out))
      | (refine wpList_store_row rfl 51 _ _ rfl wr.heap.size (hL h).toArray rfl rfl 51 _ (heap_alloc_new wr _) (by rw [HSZ.out]; exact iH) (by rw [HSZ.out]; rfl) HONE.out ?_)
      | (refine wpList_load_row rfl 51 _ rfl wr.heap.size rfl 51 (hL h).toArray (0, 0) _ ?r2 Tryz.underlying51 rfl (by rw [HSZ.out]; exact iH) ?_; (case r2 => exact HX4.out _)))
     refine (M2.out _).mono ?_
     rintro e w1 ⟨rfl, G1⟩
     have HG1 : Hid (Gr w w1) := HG.out.trans ((HW4.out _).trans G1)
     clear G1 M2 HG RG HW4 HX4
     go_wp2_with fail
     go_ret
     exact ⟨ret_bool HE.out.symm, HG1.out⟩
   ·have HE : Hid (mayM mn hs = true) := by have := HA.out; rw [show k = hn by omega, ← HL.out, List.take_length] at this; unfold Hid; rw [HW.out]; exact this
    go_wp2_with fail
    go_ret
    exact ⟨ret_bool HE.out.symm, HG.out⟩
end Go.Proofs.YtchllaeembmioaaGreatDoor.Mc
namespace Go.Proofs.YtchllaeembmioaaGreatDoor.Rw
open Go.ChangeShapes Go.WideShapes Go.ChangeAt Go.RowKit

theorem ret_int {k : IntKind} {a b : Int} (h : a = b) : Ending.returned (.int k a) = .returned (.int k b) := by rw [h]
theorem of_neg (n r : Int) (e : n.tmod 4294967296 = r) (h : r < 0) : r + 4294967296 = Wd.lo n ∧ -4294967296 < r := by
 unfold Wd.lo
 have h1 := Int.tmod_eq_emod (a := n) (b := 4294967296)
 split at h1 <;> omega
theorem of_pos (n r : Int) (e : n.tmod 4294967296 = r) (h : ¬ r < 0) : r = Wd.lo n := by
 unfold Wd.lo
 have h1 := Int.tmod_eq_emod (a := n) (b := 4294967296)
 split at h1 <;> omega
theorem Of_any (n : Int) (w : World) (hn : -9223372036854775808 ≤ n) (hn' : n ≤ 9223372036854775807) :
  Calls Tryz.prog 35 #[.int .i64 n] w fun e w' => e = .returned (.int .u32 (Wd.lo n)) ∧ w' = w := by
 obtain ⟨l0, l1⟩ := Wd.lo_bd n
 by_cases h : n.tmod 4294967296 < 0
 ·have e := of_neg n _ rfl h
  have H : Hid (n.tmod 4294967296 + 4294967296 = Wd.lo n) := e.1
  have e2 := e.2
  clear e
  go_enter Tryz.func35, Tryz.ntmps35
  go_wp2
  go_ret
  exact ⟨ret_int H.out, rfl⟩
 ·have H : Hid (n.tmod 4294967296 = Wd.lo n) := of_pos n _ rfl h
  go_enter Tryz.func35, Tryz.ntmps35
  go_wp2
  go_ret
  exact ⟨ret_int (by have := H.out; omega), rfl⟩

end Go.Proofs.YtchllaeembmioaaGreatDoor.Rw
namespace Go.Proofs.YtchllaeembmioaaGreatDoor.Rw
open Go.ChangeShapes Go.WideShapes Go.ChangeAt Go.RowKit

end Go.Proofs.YtchllaeembmioaaGreatDoor.Rw
namespace Go.Proofs.YtchllaeembmioaaGreatDoor.Hr
open Go.ChangeShapes Go.WideShapes Go.ChangeAt Go.RowKit Mm Hh

theorem iH : (Tryz.prog.info? 51).map (·.size) = some 37 := by kernel_rfl
end Go.Proofs.YtchllaeembmioaaGreatDoor.Hr
namespace Go.Proofs.YtchllaeembmioaaGreatDoor.Mr
open Go.ChangeShapes Go.WideShapes Go.ChangeAt Go.RowKit Mm

theorem Size_load (op : Int) (w : World) : Calls Tryz.prog 43 #[.int .i64 op, .bool false] w fun e w' => e = .returned (.int .i64 (lsz op : Nat)) ∧ w' = w := by
 go_enter Tryz.func43, Tryz.ntmps43
 go_wp2
 all_goals
  go_ret
  refine ⟨ret_int ?_, rfl⟩
  simp only [beq_iff_eq, beq_eq_false_iff_ne, ne_eq] at *
  unfold lsz
  repeat' split
  all_goals omega
theorem there_any (ao : Option Addr) (n cap : Nat) (s : Nat) (a : Int) (w : World) (hn : n ≤ 140737488351232) (hs : s ≤ 4) (h0 : 0 ≤ a) (h1 : a < 4294967296) :
  Calls Tryz.prog 44 #[.slice ao n cap, .int .u32 a, .int .i64 (s : Nat)] w fun e w' => e = .returned (.bool (thr n s a)) ∧ w' = w := by
 by_cases hs0 : s = 0
 ·subst hs0
  go_enter Tryz.func44, Tryz.ntmps44
  go_wp2
  go_ret
  exact ⟨ret_bool (thr_f (by omega)), rfl⟩
 by_cases hm : a % (s : Int) = 0
 ·by_cases hl : a + s ≤ n
  ·go_enter Tryz.func44, Tryz.ntmps44
   go_wp2
   go_ret
   exact ⟨ret_bool (thr_t (by omega) hm hl), rfl⟩
  ·go_enter Tryz.func44, Tryz.ntmps44
   go_wp2
   go_ret
   exact ⟨ret_bool (thr_f (by omega)), rfl⟩
 ·go_enter Tryz.func44, Tryz.ntmps44
  go_wp2
  go_ret
  exact ⟨ret_bool (thr_f (by omega)), rfl⟩

theorem Load_no (ao : Option Addr) (n cap : Nat) (op a : Int) (w : World) (hn : n ≤ 140737488351232) (h0 : 0 ≤ a) (h1 : a < 4294967296) (hok : thr n (lsz op) a = false) :
  Calls Tryz.prog 24 #[.slice ao n cap, .int .i64 op, .int .u32 a] w fun e w' => e = .returned (.tuple #[.int .u32 0, .bool false]) ∧ w' = w := by
 have hs := lsz_le op
 go_enter Tryz.func24, Tryz.ntmps24
 go_wp2_with (first | (go_at_call 43; refine (Size_load _ _).mono ?_; rintro e w' ⟨rfl, rfl⟩) | (go_at_call 44; refine (there_any _ _ _ _ _ _ hn hs (by omega) (by omega)).mono ?_; rintro e w' ⟨rfl, rfl⟩))
 go_ret2
 exact ⟨rfl, rfl⟩
def p8 (k : Nat) : Int := 256 ^ k
theorem p8_succ (k : Nat) : p8 (k + 1) = 256 * p8 k := by unfold p8; rw [Int.pow_succ, Int.mul_comm]
theorem p8_bd {k : Nat} (hk : k ≤ 4) : 1 ≤ p8 k ∧ p8 k ≤ 4294967296 := by
 have h : k = 0 ∨ k = 1 ∨ k = 2 ∨ k = 3 ∨ k = 4 := by omega
 rcases h with rfl | rfl | rfl | rfl | rfl <;> decide
theorem p8_bd3 {k : Nat} (hk : k < 4) : 1 ≤ p8 k ∧ p8 k ≤ 16777216 := by
 have h : k = 0 ∨ k = 1 ∨ k = 2 ∨ k = 3 := by omega
 rcases h with rfl | rfl | rfl | rfl <;> decide
theorem wide_neg {op X P : Int} (h11 : op = 11 → P = 256) (h12 : op = 12 → P = 65536) (h : op = 11 ∨ op = 12) (h0 : 0 ≤ X) (h1 : X < P) (hg : P / 2 ≤ X) : Wd.lo (X - P) = wide op X := by
 unfold Wd.lo wide
 rcases h with h | h
 ·have := h11 h; rw [if_pos h, if_neg (by omega)]; omega
 ·have := h12 h; rw [if_neg (by omega), if_pos h, if_neg (by omega)]; omega
theorem wide_pos {op X P : Int} (h11 : op = 11 → P = 256) (h12 : op = 12 → P = 65536) (h : (op = 11 ∨ op = 12) → ¬ P / 2 ≤ X) (h0 : 0 ≤ X) (h1 : X < P) (hP : P ≤ 4294967296) : Wd.lo X = wide op X := by
 unfold Wd.lo wide
 by_cases e1 : op = 11
 ·have := h11 e1; have := h (.inl e1); rw [if_pos e1, if_pos (by omega)]; omega
 ·by_cases e2 : op = 12
  ·have := h12 e2; have := h (.inr e2); rw [if_neg e1, if_pos e2, if_pos (by omega)]; omega
  ·rw [if_neg e1, if_neg e2]; omega
theorem ret2 {k : IntKind} {x y : Int} {b : Bool} (h : x = y) : Ending.returned (.tuple #[.int k x, .bool b]) = .returned (.tuple #[.int k y, .bool b]) := by rw [h]
theorem beq_t {a b : Int} (h : a = b) : (a == b) = true := by simp [h]
theorem beq_f {a b : Int} (h : ¬ a = b) : (a == b) = false := by simp [h]
theorem Load_yes (b o n cap : Nat) (l : List UInt8) (op : Int) (a : Nat) (w : World) (hn : n ≤ 140737488351232) (hl : l.length = n) (ha : a < 4294967296)
  (hc : ∀ t, t < n → w.cell? ⟨b, o + t, none⟩ = some (.int .u8 (bv l t))) (hok : thr n (lsz op) (a : Int) = true) :
  Calls Tryz.prog 24 #[.slice (some ⟨b, o, none⟩) n cap, .int .i64 op, .int .u32 a] w fun e w' => e = .returned (.tuple #[.int .u32 (wide op (raw l a (lsz op))), .bool true]) ∧ w' = w := by
 have hs := lsz_le op
 have hk := hok
 simp only [thr, decide_eq_true_eq] at hk
 obtain ⟨k0, k1, k2⟩ := hk
 have hroom := lsz_room k1 ha k0
 go_enter Tryz.func24, Tryz.ntmps24
 go_wp2_with (first | (go_at_call 43; refine (Size_load _ _).mono ?_; rintro e w' ⟨rfl, rfl⟩) | (go_at_call 44; refine (there_any _ _ _ _ _ _ hn hs (by omega) (by omega)).mono ?_; rintro e w' ⟨rfl, rfl⟩))
 go_loop [9, 10, 11] (fun x p i => ∃ k : Nat, k ≤ lsz op ∧ i = .int .i64 k ∧ p = .int .i64 (p8 k) ∧ x = .int .i64 (raw l a k)) (fun _ _ i => lsz op - (intOf i).toNat)
 case atStart => exact ⟨0, Nat.zero_le _, rfl, rfl, rfl⟩
 case round =>
  obtain ⟨k, hk, rfl, rfl, rfl⟩ := hrel
  have rb := raw_bd l a k
  change _ ∧ _ < p8 k at rb
  have bb := bv_bd l (a + k)
  have pb := p8_bd (show k ≤ 4 by omega)
  by_cases hlt : k < lsz op
  ·have hck := hc (a + k) (by omega)
   have pb3 := p8_bd3 (show k < 4 by omega)
   have hm0 : 0 ≤ bv l (a + k) * p8 k := Int.mul_nonneg bb.1 (by omega)
   have hm1 : bv l (a + k) * p8 k ≤ 255 * p8 k := Int.mul_le_mul_of_nonneg_right bb.2 (by omega)
   have HP : Hid (p8 (k + 1) = 256 * p8 k) := p8_succ k
   have HR : Hid (raw l a (k + 1) = raw l a k + bv l (a + k) * p8 k) := rfl
   clear hc
   go_wp2
   go_round
   case rel => exact ⟨k + 1, by omega, by go_num, by rw [HP.out], by rw [HR.out]⟩
   case measure => simp [intOf]; omega
  ·obtain rfl : k = lsz op := by omega
   have c11 : Hid (op = 11 → p8 (lsz op) = 256) := fun e => by subst e; rfl
   have c12 : Hid (op = 12 → p8 (lsz op) = 65536) := fun e => by subst e; rfl
   clear hc hok hroom k1 k2 bb hk
   by_cases e1 : op = 11
   ·have E : Hid (op = 11 ∨ op = 12) := Or.inl e1
    have b1 := beq_t e1
    clear e1
    by_cases hge : p8 (lsz op) / 2 ≤ raw l a (lsz op)
    ·have F : Hid (Wd.lo (raw l a (lsz op) - p8 (lsz op)) = wide op (raw l a (lsz op))) := wide_neg c11.out c12.out E.out rb.1 rb.2 hge
     go_wp2_with (go_at_call 35; refine (Rw.Of_any _ _ (by omega) (by omega)).mono ?_; rintro e w' ⟨rfl, rfl⟩)
     go_ret2
     exact ⟨ret2 F.out, rfl⟩
    ·have F : Hid (Wd.lo (raw l a (lsz op)) = wide op (raw l a (lsz op))) := wide_pos c11.out c12.out (fun _ => hge) rb.1 rb.2 pb.2
     go_wp2_with (go_at_call 35; refine (Rw.Of_any _ _ (by omega) (by omega)).mono ?_; rintro e w' ⟨rfl, rfl⟩)
     go_ret2
     exact ⟨ret2 F.out, rfl⟩
   by_cases e2 : op = 12
   ·have E : Hid (op = 11 ∨ op = 12) := Or.inr e2
    have b1 := beq_f e1
    have b2 := beq_t e2
    clear e1 e2
    by_cases hge : p8 (lsz op) / 2 ≤ raw l a (lsz op)
    ·have F : Hid (Wd.lo (raw l a (lsz op) - p8 (lsz op)) = wide op (raw l a (lsz op))) := wide_neg c11.out c12.out E.out rb.1 rb.2 hge
     go_wp2_with (go_at_call 35; refine (Rw.Of_any _ _ (by omega) (by omega)).mono ?_; rintro e w' ⟨rfl, rfl⟩)
     go_ret2
     exact ⟨ret2 F.out, rfl⟩
    ·have F : Hid (Wd.lo (raw l a (lsz op)) = wide op (raw l a (lsz op))) := wide_pos c11.out c12.out (fun _ => hge) rb.1 rb.2 pb.2
     go_wp2_with (go_at_call 35; refine (Rw.Of_any _ _ (by omega) (by omega)).mono ?_; rintro e w' ⟨rfl, rfl⟩)
     go_ret2
     exact ⟨ret2 F.out, rfl⟩
   ·have F : Hid (Wd.lo (raw l a (lsz op)) = wide op (raw l a (lsz op))) := wide_pos c11.out c12.out (fun h => absurd h (by omega)) rb.1 rb.2 pb.2
    have b1 := beq_f e1
    have b2 := beq_f e2
    clear e1 e2
    go_wp2_with (go_at_call 35; refine (Rw.Of_any _ _ (by omega) (by omega)).mono ?_; rintro e w' ⟨rfl, rfl⟩)
    go_ret2
    exact ⟨ret2 F.out, rfl⟩
theorem Load_any {ao : Option Addr} {n : Nat} (cap : Nat) {l : List UInt8} (op a : Int) {w : World} (M : Mem w ao n l) (hn : n ≤ 140737488351232) (h0 : 0 ≤ a) (h1 : a < 4294967296) :
  Calls Tryz.prog 24 #[.slice ao n cap, .int .i64 op, .int .u32 a] w fun e w' => e = .returned (.tuple #[.int .u32 (ldV l op a), .bool (ldOk l op a)]) ∧ w' = w := by
 have hl := M.len
 cases hok : thr n (lsz op) a with
 | false =>
  have e1 : ldOk l op a = false := by unfold ldOk; rw [hl]; exact hok
  have e2 : ldV l op a = 0 := by unfold ldV; rw [e1]; rfl
  rw [e1, e2]
  exact Load_no ao n cap op a w hn h0 h1 hok
 | true =>
  have e1 : ldOk l op a = true := by unfold ldOk; rw [hl]; exact hok
  have e2 : ldV l op a = wide op (raw l a.toNat (lsz op)) := by unfold ldV; rw [e1]; rfl
  rw [e1, e2]
  obtain ⟨b, o, rfl, _, hc⟩ := M.spot (thr_pos hok h0)
  obtain ⟨a, rfl⟩ := Int.eq_ofNat_of_zero_le h0
  exact Load_yes b o n cap l op a w hn hl (by omega) hc hok

end Go.Proofs.YtchllaeembmioaaGreatDoor.Mr
namespace Go.Proofs.YtchllaeembmioaaGreatDoor.Hr
open Go.ChangeShapes Go.WideShapes Go.ChangeAt Go.RowKit Mm Hh

theorem results_cell_tmp' {P : Program} {fn : Func} {p t : Tmp} {ty : TypeId} (h : fn.results = #[.cell p ty, .tmp t]) (tmps : Array Value) (w : World) (g : Nat) (tt : TypeId) (cs : Array Value) (fr : Nat × Nat) (d : TypeDesc)
  (v : Value) (hp : tmps.getD p undef = .pointer (some ⟨g, 0, none⟩)) (hv : tmps.getD t undef = v) (hg : w.heap[g]? = some (.cells cs tt fr))
  (hu : P.underlying ty = some d) (hd : (match d with | .struct _ | .array _ _ => true | _ => false) = true) (hi : (P.info? ty).map (·.size) = some cs.size) :
  (results fn tmps).run P w = .ok (.tuple #[.agg cs, v]) w := by
 subst hv
 have hp' : tmps[p]?.getD undef = .pointer (some ⟨g, 0, none⟩) := by simpa using hp
 simp [results, h, hp', asAddr, run_loadVar_row w g tt ty cs fr d hg hu hd hi]
theorem heap_of_gr {w w' : World} (g : Gr w w') {k : Nat} {x : Obj} (h : w.heap[k]? = some x) : w'.heap[k]? = some x := by
 rw [Below.block g k (Array.getElem?_eq_some_iff.1 h).1]; exact h
end Go.Proofs.YtchllaeembmioaaGreatDoor.Hr
