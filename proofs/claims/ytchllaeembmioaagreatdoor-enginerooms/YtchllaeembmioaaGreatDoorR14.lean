/-
  Hw, Mb1, Ref1Walks, Ref1Alu, Ref4a, Ref3Walks, Ref4b, Hm7, Mb2: texts of ours that lie in one file.
-/
import Derived.Test.YtchllaeembmioaaGreatDoorR13
import Derived.Test.YtchllaeembmioaaGreatDoorR12
import Derived.Test.YtchllaeembmioaaGreatDoorR05
import Derived.Test.YtchllaeembmioaaGreatDoorRows
import Derived.Test.YtchllaeembmioaaGreatDoorR01
import Derived.WalkKit
import Derived.ProofKit
import Derived.OpenShut
import Derived.Deep.QuietTactic
import Derived.BigQuiet
import Derived.Deep.RegionWith
import Derived.Test.YtchllaeembmioaaGreatDoorR03
set_option linter.unusedVariables false
set_option linter.unusedSimpArgs false
set_option maxHeartbeats 8000000
set_option maxRecDepth 100000
namespace Go.Proofs.YtchllaeembmioaaGreatDoor.Hc
open Go.ChangeShapes Go.WideShapes Go.ChangeAt Go.RowKit Mm Hh

structure Wm (w : World) (ao : Option Addr) (n : Nat) (os : List Int) : Prop where
  len : os.length = n
  nil : ao = none → n = 0
  cell : ∀ ad, ao = some ad → ∀ t, t < n → w.cell? (ad.add t) = some (.int .u32 (os.getD t 0))
theorem Wm.of {w w' : World} {ao : Option Addr} {n : Nat} {os : List Int} (h : Wm w ao n os) (g : Gr w w') : Wm w' ao n os :=
  ⟨h.len, h.nil, fun ad e t ht => (g.cell _ (World.block_lt_of_cell? w _ (h.cell ad e t ht))).trans (h.cell ad e t ht)⟩
theorem Wm.spot {w : World} {ao : Option Addr} {n : Nat} {os : List Int} (h : Wm w ao n os) (hn : 0 < n) :
    ∃ b o, ao = some ⟨b, o, none⟩ ∧ b < w.heap.size ∧ ∀ t, t < n → w.cell? ⟨b, o + t, none⟩ = some (.int .u32 (os.getD t 0)) := by
  cases ao with
  | none => exact absurd (h.nil rfl) (by omega)
  | some ad =>
    obtain ⟨b, o, s⟩ := ad
    have hs : s = none := by simpa [Addr.add] using World.cell?_spot (h.cell _ rfl 0 hn)
    subst hs
    have hb : b < w.heap.size := by simpa [Addr.add] using World.block_lt_of_cell? w _ (h.cell _ rfl 0 hn)
    exact ⟨b, o, rfl, hb, fun t ht => by rw [← add_at]; exact h.cell _ rfl t ht⟩
theorem wm_own {w : World} {base n : Nat} {v : Value} {os : List Int} (hl : os.length = n) (h : w.ownsRow base 42 1 v n (os.map (Value.int .u32))) : ∃ ao cap, v = .slice ao n cap ∧ Wm w ao n os := by
  obtain ⟨_, h⟩ := h
  rcases h with ⟨rfl, h0⟩ | ⟨g, cap, cur, rfl, hb, hg, hn, hm, hs, ht⟩
  · subst h0
    exact ⟨none, 0, rfl, hl, fun _ => rfl, fun ad e => (by cases e)⟩
  · refine ⟨_, cap, rfl, hl, fun e => (by cases e), fun ad e t htn => ?_⟩
    obtain rfl := Option.some.inj e
    rw [add_at, Nat.zero_add, cell_of_row _ _ _ _ _ _ hg]
    have h1 : (cur.toList.take (n * 1))[t]? = some (.int .u32 (os.getD t 0)) := by
      rw [ht, List.getElem?_map]
      simp [List.getD, List.getElem?_eq_getElem (show t < os.length by omega)]
    rw [List.getElem?_take_of_lt (by omega)] at h1
    simpa using h1

theorem Words_zero (a b : Option Addr) (c d : Nat) (w : World) : Calls Tryz.prog 21 #[.slice a 0 c, .slice b 0 d] w fun e w' => e = .returned (.bool true) ∧ Gr w w' := by
  go_enter Tryz.func21, Tryz.ntmps21
  go_wp2
  go_loopw [5] (fun i wr => i = .int .i64 0 ∧ wr = w) (fun _ _ => 0)
  case atStart => exact ⟨rfl, rfl⟩
  case round =>
    obtain ⟨rfl, rfl⟩ := hrel
    go_wp2
    go_ret
    exact ⟨rfl, Gr.refl _⟩
theorem Words_pos {w : World} {b1 o1 b2 o2 n : Nat} {os : List Int} (c d : Nat) (hn : n ≤ 1000000) (h1 : ∀ t, t < n → w.cell? ⟨b1, o1 + t, none⟩ = some (.int .u32 (os.getD t 0))) (h2 : ∀ t, t < n → w.cell? ⟨b2, o2 + t, none⟩ = some (.int .u32 (os.getD t 0))) :
    Calls Tryz.prog 21 #[.slice (some ⟨b1, o1, none⟩) n c, .slice (some ⟨b2, o2, none⟩) n d] w fun e w' => e = .returned (.bool true) ∧ Gr w w' := by
  have H1 : Hid (∀ t, t < n → w.cell? ⟨b1, o1 + t, none⟩ = some (.int .u32 (os.getD t 0))) := h1
  have H2 : Hid (∀ t, t < n → w.cell? ⟨b2, o2 + t, none⟩ = some (.int .u32 (os.getD t 0))) := h2
  clear h1 h2
  go_enter Tryz.func21, Tryz.ntmps21
  go_wp2
  go_loopw [5] (fun i wr => ∃ k : Nat, k ≤ n ∧ i = .int .i64 k ∧ ∃ m, wr = w.drewN m) (fun i _ => n - (intOf i).toNat)
  case atStart => exact ⟨0, Nat.zero_le _, rfl, 0, rfl⟩
  case round =>
    obtain ⟨k, hk, rfl, m, rfl⟩ := hrel
    by_cases hlt : k < n
    · have q1 := H1.out k hlt
      have q2 := H2.out k hlt
      generalize os.getD k 0 = y at *
      go_wp2_with fail
      go_quiet (fail)
      go_wp2_with fail
      go_roundw
      case rel => exact ⟨k + 1, by omega, by go_num, _, rfl⟩
      case measure => simp [intOf]; omega
    · go_wp2
      go_ret
      exact ⟨rfl, (Gr.refl _).drewN _⟩
theorem Words_same {w : World} {a b : Option Addr} {n : Nat} {os : List Int} (c d : Nat) (hn : n ≤ 1000000) (A : Wm w a n os) (B : Wm w b n os) : Calls Tryz.prog 21 #[.slice a n c, .slice b n d] w fun e w' => e = .returned (.bool true) ∧ Gr w w' := by
  by_cases h0 : n = 0
  · subst h0; exact Words_zero a b c d w
  · obtain ⟨b1, o1, rfl, _, h1⟩ := A.spot (by omega)
    obtain ⟨b2, o2, rfl, _, h2⟩ := B.spot (by omega)
    exact Words_pos c d hn h1 h2

section
variable {P : Program} {ops : Array Oper} {rest : List Oper} {op : Oper} {a : Act} {w : World} {Q : Exit → Act → World → Prop}
end
end Go.Proofs.YtchllaeembmioaaGreatDoor.Hc
namespace Go.Proofs.YtchllaeembmioaaGreatDoor.Mc
open Go.ChangeShapes Go.WideShapes Go.ChangeAt Go.RowKit Mm Hh Hc

theorem ret_bool {a b : Bool} (h : a = b) : Ending.returned (.bool a) = .returned (.bool b) := by rw [h]
theorem meets_any {x f t : Int} (hx0 : 0 ≤ x) (hx : x < 4294967296) (hf0 : 0 ≤ f) (hf : f < 4294967296) (w : World) :
    Calls Tryz.prog 65 #[.int .u32 x, .agg #[.int .u32 f, .int .u32 t]] w fun e w' => e = .returned (.bool (decide (x < t) && decide (f < x + 4))) ∧ Gr w w' := by
  by_cases h1 : x < t
  · have HE : Hid ((decide (x < t) && decide (f < x + 4)) = decide (f < x + 4)) := by unfold Hid; simp [h1]
    rw [HE.out]
    go_enter Tryz.func65, Tryz.ntmps65
    go_wp2
    go_ret
    exact ⟨rfl, (Gr.refl _).alloc _⟩
  · have HE : Hid ((decide (x < t) && decide (f < x + 4)) = false) := by unfold Hid; simp [h1]
    rw [HE.out]
    go_enter Tryz.func65, Tryz.ntmps65
    go_wp2
    go_ret
    exact ⟨rfl, (Gr.refl _).alloc _⟩

def mayM (mn : Nat) (hs : List Hv) : Bool := decide (mn ≤ 4096 ∧ 1 ≤ hs.length ∧ hs.length ≤ 4) && hs.all may
theorem wrong_may (m : List UInt8) (hs : List Hv) (ps : List (Int × Int)) : wrong m hs ps = if mayM m.length hs = false then 2 else if 300 < ps.length then 1 else if ps.all (pickOk hs.length) = false then 3 else 0 := by
  unfold wrong mayM
  by_cases h : 4096 < m.length ∨ hs.length < 1 ∨ 4 < hs.length
  · rw [if_pos h, if_pos]; rw [decide_eq_false (by omega)]; rfl
  · rw [if_neg h, decide_eq_true (show m.length ≤ 4096 ∧ 1 ≤ hs.length ∧ hs.length ≤ 4 by omega)]; simp only [Bool.true_and]

theorem MMay_any {ma ha : Option Addr} {hn : Nat} (mc hc : Nat) {hs : List Hv} {w : World} (mn : Nat) (H : Hs w ha hn hs) (b1 : mn ≤ 140737488351232) (b2 : hn ≤ 140737488351232) :
    Calls Tryz.prog 51 #[.agg #[.slice ma mn mc, .slice ha hn hc]] w fun e w' => e = .returned (.bool (mayM mn hs)) ∧ Gr w w' := by
  have hl := H.len
  by_cases c1 : 4096 < mn ∨ hn < 1 ∨ 4 < hn
  · have HE : Hid (mayM mn hs = false) := by unfold Hid mayM; rw [decide_eq_false (by omega)]; rfl
    clear H
    have c2 : 4096 < mn ∨ (¬ 4096 < mn ∧ hn < 1) ∨ (¬ 4096 < mn ∧ ¬ hn < 1 ∧ 4 < hn) := by omega
    clear c1
    rcases c2 with c | ⟨c, d⟩ | ⟨c, d, e⟩
    all_goals
      go_enter Tryz.func51, Tryz.ntmps51
      go_wp2
      go_ret
      exact ⟨ret_bool HE.out.symm, (Gr.refl _).alloc _⟩
  · have n1 : ¬ 4096 < mn := by omega
    have n2 : ¬ hn < 1 := by omega
    have n3 : ¬ 4 < hn := by omega
    obtain ⟨b, o, rfl, hb, hcell⟩ := H.spot (by omega)
    have HW : Hid (mayM mn hs = hs.all may) := by unfold Hid mayM; rw [decide_eq_true (by omega)]; rfl
    have HK : Hid (∀ i h, hs[i]? = some h → w.rangeAt b (o + i * 37) (hL h)) := hcell
    have HO : Hid (∀ h ∈ hs, h.Ok) := H.ok
    have HL : Hid (hs.length = hn) := hl
    clear hcell H c1 hl
    go_enter Tryz.func51, Tryz.ntmps51
    go_wp2
    go_loopw [24] (fun i wr => ∃ k : Nat, k ≤ hn ∧ i = .int .i64 k ∧ (hs.take k).all may = true ∧ Gr w wr) (fun i _ => hn - (intOf i).toNat)
    case atStart => exact ⟨0, Nat.zero_le _, rfl, rfl, (Gr.refl _).alloc _⟩
    case round =>
      obtain ⟨k, hk, rfl, hall, G⟩ := hrel
      have HG : Hid (Gr w wr) := G
      have HA : Hid ((hs.take k).all may = true) := hall
      clear G hall
      by_cases hlt : k < hn
      · obtain ⟨h, hh⟩ : ∃ h, hs[k]? = some h := ⟨_, List.getElem?_eq_getElem (by rw [HL.out]; exact hlt)⟩
        have HH : Hid (hs[k]? = some h) := hh
        have okh := HO.out h (List.mem_of_getElem? hh)
        have RG : Hid (wr.rangeAt b (o + k * 37) (hL h)) := fun j v hv => (HG.out.cell _ (by exact hb)).trans (HK.out k h hh j v hv)
        have HLL : Hid ((hL h).length = 37) := hL_len okh
        have HSZ : Hid ((hL h).toArray.size = 37) := by unfold Hid; simp [HLL.out]
        have HONE : Hid ((hL h).toArray.all (·.oneCell') = true) := one_hA h
        have M1 : Hid (∀ W : World, Calls Tryz.prog 69 #[.agg (hL h).toArray] W fun e w' => e = .returned (.bool (may h)) ∧ Gr W w') := fun W => may_any okh W
        have HW4 : Hid (∀ Y : Array Value, Gr wr ((wr.alloc (.cells Y 51)).setRow wr.heap.size (hL h).toArray)) := fun Y => gr_setRow ((Gr.refl _).alloc _) (Nat.le_refl _) _
        have HX4 : Hid (∀ Y : Array Value, ((wr.alloc (.cells Y 51)).setRow wr.heap.size (hL h).toArray).heap[wr.heap.size]? = some (.cells (hL h).toArray 51 (0, 0))) := fun Y => setRow_heap _ _ _ _ _ (0, 0) (heap_alloc_new wr _)
        clear hh okh
        cases hmb : may h with
        | true =>
          have M2 : Hid (∀ W : World, Calls Tryz.prog 69 #[.agg (hL h).toArray] W fun e w' => e = .returned (.bool true) ∧ Gr W w') := fun W => by have := M1.out W; rwa [hmb] at this
          have HN : Hid ((hs.take (k + 1)).all may = true) := by unfold Hid; rw [all_take may hs k h HH.out, HA.out, hmb]; rfl
          clear M1 hmb
          go_wp2_with (first
            | (refine wpList_load_mid rfl 51 _ rfl b (o + k * 37) rfl (hL h) _ ?r1 Tryz.underlying51 rfl (by rw [HLL.out]; exact iH) ?_; (case r1 => exact RG.out))
            | (refine wpList_store_row rfl 51 _ _ rfl wr.heap.size (hL h).toArray rfl rfl 51 _ (heap_alloc_new wr _) (by rw [HSZ.out]; exact iH) (by rw [HSZ.out]; rfl) HONE.out ?_)
            | (refine wpList_load_row rfl 51 _ rfl wr.heap.size rfl 51 (hL h).toArray (0, 0) _ ?r2 Tryz.underlying51 rfl (by rw [HSZ.out]; exact iH) ?_; (case r2 => exact HX4.out _)))
          refine (M2.out _).mono ?_
          rintro e w1 ⟨rfl, G1⟩
          have HG1 : Hid (Gr w w1) := HG.out.trans ((HW4.out _).trans G1)
          clear G1 M2 HG RG HW4 HX4
          go_wp2_with fail
          go_roundw
          case rel => exact ⟨k + 1, by omega, by go_num, HN.out, HG1.out⟩
          case measure => simp [intOf]; omega
        | false =>
          have M2 : Hid (∀ W : World, Calls Tryz.prog 69 #[.agg (hL h).toArray] W fun e w' => e = .returned (.bool false) ∧ Gr W w') := fun W => by have := M1.out W; rwa [hmb] at this
          have HE : Hid (mayM mn hs = false) := by unfold Hid; rw [HW.out]; exact all_false HH.out hmb
          clear M1 hmb
          go_wp2_with (first
            | (refine wpList_load_mid rfl 51 _ rfl b (o + k * 37) rfl (hL h) _ ?r1 Tryz.underlying51 rfl (by rw [HLL.out]; exact iH) ?_; (case r1 => exact RG.out))
            | (refine wpList_store_row rfl 51 _ _ rfl wr.heap.size (hL h).toArray rfl rfl 51 _ (heap_alloc_new wr _) (by rw [HSZ.out]; exact iH) (by rw [HSZ.out]; rfl) HONE.out ?_)
            | (refine wpList_load_row rfl 51 _ rfl wr.heap.size rfl 51 (hL h).toArray (0, 0) _ ?r2 Tryz.underlying51 rfl (by rw [HSZ.out]; exact iH) ?_; (case r2 => exact HX4.out _)))
          refine (M2.out _).mono ?_
          rintro e w1 ⟨rfl, G1⟩
          have HG1 : Hid (Gr w w1) := HG.out.trans ((HW4.out _).trans G1)
          clear G1 M2 HG RG HW4 HX4
          go_wp2_with fail
          go_ret
          exact ⟨ret_bool HE.out.symm, HG1.out⟩
      · have HE : Hid (mayM mn hs = true) := by have := HA.out; rw [show k = hn by omega, ← HL.out, List.take_length] at this; unfold Hid; rw [HW.out]; exact this
        go_wp2_with fail
        go_ret
        exact ⟨ret_bool HE.out.symm, HG.out⟩
end Go.Proofs.YtchllaeembmioaaGreatDoor.Mc
namespace Go.Proofs.YtchllaeembmioaaGreatDoor.Rw
open Go.ChangeShapes Go.WideShapes Go.ChangeAt Go.RowKit

end Go.Proofs.YtchllaeembmioaaGreatDoor.Rw
namespace Go.Proofs.YtchllaeembmioaaGreatDoor.Rw
open Go.ChangeShapes Go.WideShapes Go.ChangeAt Go.RowKit

end Go.Proofs.YtchllaeembmioaaGreatDoor.Rw
namespace Go.Proofs.YtchllaeembmioaaGreatDoor.Hr
open Go.ChangeShapes Go.WideShapes Go.ChangeAt Go.RowKit Mm Hh

theorem iH : (Tryz.prog.info? 51).map (·.size) = some 37 := by kernel_rfl
end Go.Proofs.YtchllaeembmioaaGreatDoor.Hr
namespace Go.Proofs.YtchllaeembmioaaGreatDoor.Mr
open Go.ChangeShapes Go.WideShapes Go.ChangeAt Go.RowKit Mm

def sof (l : List UInt8) : ByteArray := ⟨l.toArray⟩
theorem sof_eq (a b : List UInt8) : ((sof a).toList == (sof b).toList) = decide (a = b) := by
  rw [ByteArray.toList_eq, ByteArray.toList_eq]
  show (a == b) = _
  exact (Bool.eq_iff_iff.2 (by simp))
theorem conv_any {w : World} {ao : Option Addr} {n : Nat} (cap : Nat) {l : List UInt8} (M : Mem w ao n l) : (convert 22 9 (.slice ao n cap)).run Tryz.prog w = .ok (.string (sof l)) w := by
  have hl := M.len
  cases ao with
  | none =>
    have h0 := M.nil rfl
    subst h0
    obtain rfl : l = [] := List.length_eq_zero_iff.1 hl
    rw [run_convert_bytes_string w 22 9 5 none 0 cap Tryz.underlying22 Tryz.underlying5 Tryz.underlying9]
    rfl
  | some ad =>
    subst hl
    exact run_convert_bytes_back w 22 9 5 ad cap l Tryz.underlying22 Tryz.underlying5 Tryz.underlying9 (fun j hj => by rw [M.cell ad rfl j hj, bv_of hj])
theorem Bytes_any {ao bo : Option Addr} {n m : Nat} (ca cb : Nat) {l k : List UInt8} {w : World} (A : Mem w ao n l) (B : Mem w bo m k) :
    Calls Tryz.prog 20 #[.slice ao n ca, .slice bo m cb] w fun e w' => e = .returned (.bool (decide (l = k))) ∧ w' = w := by
  have hA := conv_any ca A
  have hB := conv_any cb B
  have HE : Hid (((sof l).toList == (sof k).toList) = decide (l = k)) := sof_eq l k
  clear A B
  go_enter Tryz.func20, Tryz.ntmps20
  go_wp2
  go_ret
  exact ⟨ret_bool HE.out, rfl⟩
end Go.Proofs.YtchllaeembmioaaGreatDoor.Mr
namespace Go.Proofs.YtchllaeembmioaaGreatDoor.Hr
open Go.ChangeShapes Go.WideShapes Go.ChangeAt Go.RowKit Mm Hh

theorem results_cell_tmp' {P : Program} {fn : Func} {p t : Tmp} {ty : TypeId} (h : fn.results = #[.cell p ty, .tmp t]) (tmps : Array Value) (w : World) (g : Nat) (tt : TypeId) (cs : Array Value) (fr : Nat × Nat) (d : TypeDesc)
    (v : Value) (hp : tmps.getD p undef = .pointer (some ⟨g, 0, none⟩)) (hv : tmps.getD t undef = v) (hg : w.heap[g]? = some (.cells cs tt fr))
    (hu : P.underlying ty = some d) (hd : (match d with | .struct _ | .array _ _ => true | _ => false) = true) (hi : (P.info? ty).map (·.size) = some cs.size) :
    (results fn tmps).run P w = .ok (.tuple #[.agg cs, v]) w := by
  subst hv
  have hp' : tmps[p]?.getD undef = .pointer (some ⟨g, 0, none⟩) := by simpa using hp
  simp [results, h, hp', asAddr, run_loadVar_row w g tt ty cs fr d hg hu hd hi]
theorem heap_of_gr {w w' : World} (g : Gr w w') {k : Nat} {x : Obj} (h : w.heap[k]? = some x) : w'.heap[k]? = some x := by
  rw [Below.block g k (Array.getElem?_eq_some_iff.1 h).1]; exact h
end Go.Proofs.YtchllaeembmioaaGreatDoor.Hr
namespace Go.Proofs.YtchllaeembmioaaGreatDoor.Hc
open Go.ChangeShapes Go.WideShapes Go.ChangeAt Go.RowKit Mm Hh

theorem mem_bc {w w' : World} {ad : Addr} {n : Nat} {l : List UInt8} (M : Mem w (some ad) n l) (G : Gr w w') : ∀ j u, (bc l)[j]? = some u → w'.cell? (ad.add j) = some u := by
  intro j u hj
  obtain ⟨h1, rfl⟩ := bc_get hj
  have hl := M.len
  exact (M.of G).cell ad rfl j (by omega)
theorem own_of {w : World} {base n : Nat} {v : Value} {l : List UInt8} (hl : l.length = n) (h : w.ownsRow base 5 1 v n (bc l)) : Own w base v l := by
  subst hl
  obtain ⟨_, h⟩ := h
  rcases h with ⟨rfl, h0⟩ | ⟨g, cap, cur, rfl, hb, hg, hn, hm, hs, ht⟩
  · exact .inl ⟨rfl, List.eq_nil_of_length_eq_zero h0⟩
  · refine .inr ⟨g, cap, rfl, hb, cur.toList.drop (l.length * 1), ?_⟩
    rw [← ht, List.take_append_drop]
    exact hg
theorem Clone_any {w : World} {ao : Option Addr} {n cap : Nat} {l : List UInt8} (M : Mem w ao n l) (hcap : ao = none → cap = 0) (hn : n ≤ 140737488351232) :
    Calls Tryz.prog 30 #[.slice ao n cap] w fun e w' => ∃ v, e = .returned v ∧ Own w' w.heap.size v l ∧ Gr w w' := by
  have hl := M.len
  cases ao with
  | none =>
    obtain rfl := M.nil rfl
    obtain rfl := hcap rfl
    obtain rfl : l = [] := List.eq_nil_of_length_eq_zero hl
    clear M hcap
    have he : ∀ w : World, (binOp .eql 22 (.slice none 0 0) (.slice none 0 0)).run Tryz.prog w = .ok (.bool true) w := fun _ => by kernel_rfl
    go_enter Tryz.func30, Tryz.ntmps30
    go_wp2
    go_ret
    exact ⟨_, rfl, .inl ⟨rfl, rfl⟩, Gr.refl _⟩
  | some ad =>
    obtain ⟨i0, hi, hz0, hz1, hz2⟩ := info_parts info5
    have HM : Hid (Mem w (some ad) n l) := M
    have he : ∀ w : World, (binOp .eql 22 (.slice (some ad) n cap) (.slice none 0 0)).run Tryz.prog w = .ok (.bool false) w := fun _ => by kernel_rfl
    clear M hcap
    go_enter Tryz.func30, Tryz.ntmps30
    go_wp2_with (at_builtin; refine wpList_append_own _ rfl (.tmp 5) (.tmp 6) 22 rfl w.heap.size 5 i0 (.int .u8 0) 1 1 Tryz.underlying22 hi hz0 hz1 hz2 rfl (by decide) _ 0 [] rfl (World.ownsRow_made w #[] 0 (Nat.le_refl _) (by decide) rfl) ad n cap (bc l) rfl (by rw [bc_len, hl]; simp) (mem_bc HM.out ((Gr.refl _).alloc _)) (bc_one l) (by unfold maxLen; omega) (by omega) (by simp) ?_; intro v' w1 hown hgrow _; have HO : Hid (Own w1 w.heap.size v' l) := own_of hl (by simpa using hown); have HG : Hid (Gr w w1) := ((Gr.refl _).alloc _).grown hgrow (fun k e => Nat.le_of_eq (Option.some.inj e)); clear hown hgrow)
    go_ret
    exact ⟨_, rfl, HO.out, HG.out⟩

theorem iC : (Tryz.prog.info? 115).map (·.size) = some 40 := by kernel_rfl
theorem two_of {w w' : World} {A Z : Array Value} {t u : Nat} (g : Gr ((w.alloc (.cells A t)).alloc (.cells Z u)) w') : w'.heap[w.heap.size]? = some (.cells A t (0, 0)) ∧ w'.heap[w.heap.size + 1]? = some (.cells Z u (0, 0)) :=
  ⟨Hr.heap_of_gr g (heap_alloc2_old w _ _), Hr.heap_of_gr g (heap_alloc2_new w _ _)⟩
theorem Own.cells {w : World} {base : Nat} {v : Value} {l : List UInt8} (h : Own w base v l) : v.cells = #[v] ∧ v.oneCell' = true := by
  rcases h with ⟨rfl, _⟩ | ⟨k, cap, rfl, _⟩ <;> exact ⟨rfl, rfl⟩
theorem Own.base {w w' : World} {b b' : Nat} {v : Value} {l : List UInt8} (h : Own w b v l) (hb : b' ≤ b) : Own w b' v l := by
  rcases h with h | ⟨k, cap, e, q, R⟩
  · exact .inl h
  · exact .inr ⟨k, cap, e, Nat.le_trans hb q, R⟩
theorem range_of {w : World} {b : Nat} {h : Hv} {t : Nat} (e : w.heap[b]? = some (.cells (hA h) t (0, 0))) : w.rangeAt b 0 (hL h) := fun j v hv => by
  rw [Nat.zero_add, cell_of_row _ _ _ _ _ _ e]
  simpa [hA] using hv
theorem NewCore_yes {h : Hv} (o : h.Ok) {ao : Option Addr} {n cap : Nat} {l : List UInt8} {w : World} (M : Mem w ao n l) (hcap : ao = none → cap = 0) (hn : n ≤ 4096) (hm : may h = true) (hs : h.state = 0) :
    Calls Tryz.prog 99 #[.agg (hA h), .slice ao n cap] w fun e w' => ∃ v, e = .returned (.tuple #[.agg (cA ⟨h, v, nilS, nilS⟩), .bool true]) ∧ Own w' w.heap.size v l ∧ Gr w w' := by
  have HM : Hid (∀ W : World, Calls Tryz.prog 69 #[.agg (hA h)] W fun e w' => e = .returned (.bool true) ∧ Gr W w') := fun W => by rw [← hm]; exact may_any o W
  have g35 : (hA h)[35]? = some (.int .i64 0) := by rw [← hs]; exact (may_get h o).2.2.2.1
  have HS : Hid ((hA h).size = 37) := hA_size o
  have HL : Hid ((hL h).length = 37) := hL_len o
  have HC : Hid (∀ W : World, Gr w W → Calls Tryz.prog 30 #[.slice ao n cap] W fun e w' => ∃ v, e = .returned v ∧ Own w' w.heap.size v l ∧ Gr W w') := fun W G =>
    (Clone_any (M.of G) hcap (by omega)).mono fun e w' ⟨v, e1, e2, e3⟩ => ⟨v, e1, e2.base (w' := w') G.size, e3⟩
  have HBu : Hid (∀ v : Value, v.cells = #[v] → Tryz.prog.built 115 [(0, .agg (hA h)), (1, v)] = some (cA ⟨h, v, nilS, nilS⟩)) := fun v hv => built_core o v hv
  have HZ : Hid (∀ v, (cA ⟨h, v, nilS, nilS⟩).size = 40) := fun v => cA_size o
  clear M hm hs hcap o
  go_enter Tryz.func99, Tryz.ntmps99
  go_wp2_with (refine wpList_load_row rfl 51 _ rfl w.heap.size rfl 51 (hA h) (0, 0) _ ?hb1 Tryz.underlying51 rfl (by rw [HS.out]; exact Hr.iH) ?_; (case hb1 => exact heap_alloc2_old w _ _))
  refine (HM.out _).mono ?_
  rintro e w1 ⟨rfl, G1⟩
  obtain ⟨hB, hR⟩ := two_of G1
  have HG : Hid (Gr w w1) := (((Gr.refl _).alloc _).alloc _).trans G1
  have k35 : w1.cell? ⟨w.heap.size, 35, none⟩ = some (.int .i64 0) := (cell_of_row _ _ _ _ _ _ hB).trans g35
  have HB : Hid (w1.heap[w.heap.size]? = some (.cells (hA h) 51 (0, 0))) := hB
  have HR : Hid (∃ Z : Array Value, Z.size = 40 ∧ w1.heap[w.heap.size + 1]? = some (.cells Z 115 (0, 0))) := ⟨_, rfl, hR⟩
  clear G1 hB hR HM g35
  obtain ⟨Z, hz, hR⟩ := HR.out
  have HR2 : Hid (w1.heap[w.heap.size + 1]? = some (.cells Z 115 (0, 0))) := hR
  clear HR hR
  go_wp2_with fail
  refine wp_region_any (by kernel_rfl) ?_
  change wpAny _ _ _ _ _ _ _ (World.drew _)
  refine wpAny_take (i := 1) (v := .slice ao n cap) rfl (by kernel_rfl) (by kernel_rfl) (by kernel_rfl) (fun _ _ _ h => h) (Or.inl ⟨by rfl, fun w => by go_simp⟩) ?_
  refine wpAny_ready (rs := [0, 2]) (by kernel_rfl) (by simp) ?_
  refine AllReady.cons rfl (fun K hK => ?_) (AllReady.cons rfl (fun K hK => ?_) AllReady.nil)
  · refine step_load rfl 51 (.tmp 2) rfl w.heap.size (by simp [Act.eval, Act.put]) (hL h) _ (range_of (by exact HB.out)) Tryz.underlying51 rfl (by rw [HL.out]; exact Hr.iH) ?_
    refine hK _ _ ?_
    clear hK K
    refine wpAny_ready (rs := [2]) (by kernel_rfl) (by simp) ?_
    refine AllReady.cons rfl (fun K hK => ?_) AllReady.nil
    go_simp
    refine (HC.out _ (by repeat (first | exact HG.out | refine Gr.drew ?_))).mono ?_
    rintro e w2 ⟨v, rfl, O2, G2⟩
    simp only []
    refine hK _ _ ?_
    clear hK K
    have HO2 : Hid (Own w2 w.heap.size v l) := O2
    have HG2 : Hid (Gr w1 w2) := (Gr.refl w1).drew.trans G2
    clear O2 G2
    refine wpAny_ready (rs := [3]) (by kernel_rfl) (by simp) ?_
    refine AllReady.cons rfl (fun K hK => ?_) AllReady.nil
    refine step_build rfl 115 _ rfl (cA ⟨h, v, nilS, nilS⟩) (by have := HBu.out v HO2.out.cells.1; simp [Act.eval, Act.put]; exact this) ?_
    refine hK _ _ ?_
    clear hK K
    refine wpAny_ready (rs := [4]) (by kernel_rfl) (by simp) ?_
    refine AllReady.cons rfl (fun K hK => ?_) AllReady.nil
    refine step_store rfl 115 (.tmp 4) (.tmp 23) rfl (w.heap.size + 1) (cA ⟨h, v, nilS, nilS⟩) (by simp [Act.eval, Act.put]) (by simp [Act.eval, Act.put]) 115 Z (Hr.heap_of_gr HG2.out HR2.out) (by rw [HZ.out]; exact iC) (by rw [HZ.out, hz]) (one_cA _ HO2.out.cells.2 rfl rfl) ?_
    refine hK _ _ ?_
    clear hK K
    refine wpAny_ready (rs := [5]) (by kernel_rfl) (by simp) ?_
    refine AllReady.cons rfl (fun K hK => ?_) AllReady.nil
    go_simp
    refine hK _ _ ?_
    clear hK K
    refine wpAny_done (by kernel_rfl) ?_ _
    go_wp2_with fail
    refine bodyPost_ret (v := .tuple #[.agg (cA ⟨h, v, nilS, nilS⟩), .bool true]) (Hr.results_cell_tmp' Tryz.results99 _ _ _ _ _ (0, 0) _ _ (by simp [Act.put]) (by simp [Act.put]) (setRow_heap _ _ _ _ _ (0, 0) (Hr.heap_of_gr HG2.out HR2.out)) Tryz.underlying115 rfl (by rw [HZ.out]; exact iC)) rfl ⟨v, rfl, ?_, ?_⟩
    · refine HO2.out.to fun k q f hk => setRow_other _ _ _ _ ?_
      exact ne_of_types hk (Hr.heap_of_gr HG2.out HR2.out) (by decide)
    · exact gr_setRow (HG.out.trans HG2.out) (Nat.le_succ _) _
  · go_simp
    refine (HC.out _ (by repeat (first | exact HG.out | refine Gr.drew ?_))).mono ?_
    rintro e w2 ⟨v, rfl, O2, G2⟩
    simp only []
    refine hK _ _ ?_
    clear hK K
    have HO2 : Hid (Own w2 w.heap.size v l) := O2
    have HG2 : Hid (Gr w1 w2) := (Gr.refl w1).drew.trans G2
    clear O2 G2
    refine wpAny_ready (rs := [0]) (by kernel_rfl) (by simp) ?_
    refine AllReady.cons rfl (fun K hK => ?_) AllReady.nil
    refine step_load rfl 51 (.tmp 2) rfl w.heap.size (by simp [Act.eval, Act.put]) (hL h) _ (range_of (Hr.heap_of_gr HG2.out HB.out)) Tryz.underlying51 rfl (by rw [HL.out]; exact Hr.iH) ?_
    refine hK _ _ ?_
    clear hK K
    refine wpAny_ready (rs := [3]) (by kernel_rfl) (by simp) ?_
    refine AllReady.cons rfl (fun K hK => ?_) AllReady.nil
    refine step_build rfl 115 _ rfl (cA ⟨h, v, nilS, nilS⟩) (by have := HBu.out v HO2.out.cells.1; simp [Act.eval, Act.put]; exact this) ?_
    refine hK _ _ ?_
    clear hK K
    refine wpAny_ready (rs := [4]) (by kernel_rfl) (by simp) ?_
    refine AllReady.cons rfl (fun K hK => ?_) AllReady.nil
    refine step_store rfl 115 (.tmp 4) (.tmp 23) rfl (w.heap.size + 1) (cA ⟨h, v, nilS, nilS⟩) (by simp [Act.eval, Act.put]) (by simp [Act.eval, Act.put]) 115 Z (Hr.heap_of_gr HG2.out HR2.out) (by rw [HZ.out]; exact iC) (by rw [HZ.out, hz]) (one_cA _ HO2.out.cells.2 rfl rfl) ?_
    refine hK _ _ ?_
    clear hK K
    refine wpAny_ready (rs := [5]) (by kernel_rfl) (by simp) ?_
    refine AllReady.cons rfl (fun K hK => ?_) AllReady.nil
    go_simp
    refine hK _ _ ?_
    clear hK K
    refine wpAny_done (by kernel_rfl) ?_ _
    go_wp2_with fail
    refine bodyPost_ret (v := .tuple #[.agg (cA ⟨h, v, nilS, nilS⟩), .bool true]) (Hr.results_cell_tmp' Tryz.results99 _ _ _ _ _ (0, 0) _ _ (by simp [Act.put]) (by simp [Act.put]) (setRow_heap _ _ _ _ _ (0, 0) (Hr.heap_of_gr HG2.out HR2.out)) Tryz.underlying115 rfl (by rw [HZ.out]; exact iC)) rfl ⟨v, rfl, ?_, ?_⟩
    · refine HO2.out.to fun k q f hk => setRow_other _ _ _ _ ?_
      exact ne_of_types hk (Hr.heap_of_gr HG2.out HR2.out) (by decide)
    · exact gr_setRow (HG.out.trans HG2.out) (Nat.le_succ _) _
end Go.Proofs.YtchllaeembmioaaGreatDoor.Hc
namespace Go.Proofs.YtchllaeembmioaaGreatDoor.Mc
open Go.ChangeShapes Go.WideShapes Go.ChangeAt Go.RowKit Mm Hh Hc

theorem pwrong_any {ma ha pa : Option Addr} {hn pn : Nat} (mc hc pc : Nat) {m : List UInt8} {hs : List Hv} {ps : List (Int × Int)} {w : World} (mn : Nat) (hmn : m.length = mn) (H : Hs w ha hn hs) (P : Ps w pa pn ps) (b1 : mn ≤ 140737488351232) (b2 : hn ≤ 140737488351232) (b3 : pn ≤ 140737488351232) :
    Calls Tryz.prog 29 #[.agg #[.slice ma mn mc, .slice ha hn hc], .slice pa pn pc] w fun e w' => e = .returned (.int .i64 (wrong m hs ps)) ∧ Gr w w' := by
  have HM : Hid (∀ W : World, Gr w W → Calls Tryz.prog 51 #[.agg #[.slice ma mn mc, .slice ha hn hc]] W fun e w' => e = .returned (.bool (mayM mn hs)) ∧ Gr W w') := fun W G => MMay_any mc hc mn (H.of G) b1 b2
  have HWr : Hid (wrong m hs ps = if mayM mn hs = false then 2 else if 300 < ps.length then 1 else if ps.all (pickOk hs.length) = false then 3 else 0) := by have := wrong_may m hs ps; rw [hmn] at this; exact this
  have HL : Hid (hs.length = hn) := H.len
  have PL : Hid (ps.length = pn) := P.len
  have HP : Hid (Ps w pa pn ps) := P
  clear H P hmn
  generalize mayM mn hs = B at *
  cases B with
  | false =>
    have HE : Hid (wrong m hs ps = 2) := by unfold Hid; rw [HWr.out, if_pos rfl]
    clear HWr HP
    go_enter Tryz.func29, Tryz.ntmps29
    go_wp2_with fail
    refine (HM.out _ ((Gr.refl _).alloc _)).mono ?_
    rintro e w1 ⟨rfl, G1⟩
    have HG1 : Hid (Gr w w1) := ((Gr.refl _).alloc _).trans G1
    clear G1 HM
    go_wp2_with fail
    go_ret
    exact ⟨ret_int HE.out.symm, HG1.out⟩
  | true =>
    have HW2 : Hid (wrong m hs ps = if 300 < pn then 1 else if ps.all (pickOk hn) = false then 3 else 0) := by unfold Hid; rw [HWr.out, if_neg (by simp), PL.out, HL.out]
    clear HWr
    go_enter Tryz.func29, Tryz.ntmps29
    go_wp2_with fail
    refine (HM.out _ ((Gr.refl _).alloc _)).mono ?_
    rintro e w1 ⟨rfl, G1⟩
    have HG1 : Hid (Gr w w1) := ((Gr.refl _).alloc _).trans G1
    have HB : Hid (w1.heap[w.heap.size]? = some (.cells #[.slice ma mn mc, .slice ha hn hc] 25 (0, 0))) := (G1.block _ (by simp)).trans (heap_alloc_new w _)
    have hlt1 : w.heap.size < w1.heap.size := (Array.getElem?_eq_some_iff.1 HB.out).1
    clear G1 HM
    by_cases c3 : 300 < pn
    · have HE : Hid (wrong m hs ps = 1) := by unfold Hid; rw [HW2.out, if_pos c3]
      go_wp2_with fail
      go_ret
      exact ⟨ret_int HE.out.symm, HG1.out⟩
    · have HW3 : Hid (wrong m hs ps = if ps.all (pickOk hn) = false then 3 else 0) := by unfold Hid; rw [HW2.out, if_neg c3]
      clear HW2
      by_cases p0 : pn = 0
      · subst p0
        have HE : Hid (wrong m hs ps = 0) := by
          have : ps = [] := List.eq_nil_of_length_eq_zero PL.out
          unfold Hid; rw [HW3.out, this]; rfl
        go_wp2_with fail
        go_loopw [15] (fun i wq => i = .int .i64 0 ∧ wq = w1) (fun _ _ => 0)
        case atStart => exact ⟨rfl, rfl⟩
        case round =>
          obtain ⟨rfl, rfl⟩ := hrel
          go_wp2
          go_ret
          exact ⟨ret_int HE.out.symm, HG1.out⟩
      · obtain ⟨b', o', rfl, hb', hcell'⟩ := HP.out.spot (by omega)
        have HC : Hid (∀ i p, ps[i]? = some p → w1.cell? ⟨b', o' + i * 2, none⟩ = some (.int .i64 p.1) ∧ w1.cell? ⟨b', o' + i * 2 + 1, none⟩ = some (.int .i64 p.2)) := fun i p hp => ⟨(HG1.out.cell _ (by exact hb')).trans (hcell' i p hp).1, (HG1.out.cell _ (by exact hb')).trans (hcell' i p hp).2⟩
        have hb1 : b' < w1.heap.size := Nat.lt_of_lt_of_le hb' HG1.out.size
        clear hcell' HP
        go_wp2_with fail
        go_loopw [15] (fun i wq => ∃ j : Nat, j ≤ pn ∧ i = .int .i64 j ∧ (ps.take j).all (pickOk hn) = true ∧ Gr w1 wq) (fun i _ => pn - (intOf i).toNat)
        case atStart => exact ⟨0, Nat.zero_le _, rfl, rfl, Gr.refl _⟩
        case round =>
          obtain ⟨j, hj, rfl, hall, G⟩ := hrel
          have HA : Hid ((ps.take j).all (pickOk hn) = true) := hall
          have HG : Hid (Gr w1 wr) := G
          have hbr : b' < wr.heap.size := Nat.lt_of_lt_of_le hb1 G.size
          have hwr : w.heap.size < wr.heap.size := Nat.lt_of_lt_of_le hlt1 G.size
          have k1 : wr.cell? ⟨w.heap.size, 1, none⟩ = some (.slice ha hn hc) := (G.cell _ (by exact hlt1)).trans (cell_of_row _ _ _ _ _ _ HB.out)
          clear hall G
          by_cases hlt2 : j < pn
          · obtain ⟨p, hp⟩ : ∃ p, ps[j]? = some p := ⟨_, List.getElem?_eq_getElem (by rw [PL.out]; exact hlt2)⟩
            have q0 : wr.cell? ⟨b', o' + j * 2, none⟩ = some (.int .i64 p.1) := (HG.out.cell _ (by exact hb1)).trans (HC.out j p hp).1
            have q1 : wr.cell? ⟨b', o' + j * 2 + 1, none⟩ = some (.int .i64 p.2) := (HG.out.cell _ (by exact hb1)).trans (HC.out j p hp).2
            have HE : Hid (¬ (0 ≤ p.1 ∧ p.1 < hn ∧ 0 ≤ p.2 ∧ p.2 ≤ 400) → wrong m hs ps = 3) := fun hno => by rw [HW3.out, if_pos (all_false hp (by unfold pickOk; exact decide_eq_false hno))]
            have HN : Hid ((0 ≤ p.1 ∧ p.1 < hn ∧ 0 ≤ p.2 ∧ p.2 ≤ 400) → (ps.take (j + 1)).all (pickOk hn) = true) := fun hy => by
              rw [all_take _ ps j p hp, HA.out, show pickOk hn p = true by unfold pickOk; exact decide_eq_true hy]; rfl
            clear hp
            obtain ⟨x, y⟩ := p
            simp only at *
            have hc : x < 0 ∨ (¬ x < 0 ∧ (hn : Int) ≤ x) ∨ (¬ x < 0 ∧ ¬ (hn : Int) ≤ x ∧ y < 0) ∨ (¬ x < 0 ∧ ¬ (hn : Int) ≤ x ∧ ¬ y < 0 ∧ 400 < y) ∨ (¬ x < 0 ∧ ¬ (hn : Int) ≤ x ∧ ¬ y < 0 ∧ ¬ 400 < y) := by omega
            rcases hc with h1 | ⟨h1, h2⟩ | ⟨h1, h2, h3⟩ | ⟨h1, h2, h3, h4⟩ | ⟨h1, h2, h3, h4⟩
            · go_wp2
              go_ret
              exact ⟨ret_int (HE.out (by omega)).symm, HG1.out.trans (HG.out.alloc _)⟩
            · go_wp2
              go_ret
              exact ⟨ret_int (HE.out (by omega)).symm, HG1.out.trans (HG.out.alloc _)⟩
            · go_wp2
              go_ret
              exact ⟨ret_int (HE.out (by omega)).symm, HG1.out.trans (HG.out.alloc _)⟩
            · go_wp2
              go_ret
              exact ⟨ret_int (HE.out (by omega)).symm, HG1.out.trans (HG.out.alloc _)⟩
            · go_wp2
              go_roundw
              case rel => exact ⟨j + 1, by omega, by go_num, HN.out (by omega), HG.out.alloc _⟩
              case measure => simp [intOf]; omega
          · have HE : Hid (wrong m hs ps = 0) := by
              have e : (ps.take j).all (pickOk hn) = true := HA.out
              rw [show j = pn by omega, ← PL.out, List.take_length] at e
              unfold Hid; rw [HW3.out, e]; rfl
            go_wp2
            go_ret
            exact ⟨ret_int HE.out.symm, HG1.out.trans HG.out⟩

theorem owns_at {w : World} {base e sz n : Nat} {v : Value} {xs : List Value} (h : w.ownsRow base e sz v n xs) (hn : 1 ≤ n) : ∃ g cap, v = .slice (some ⟨g, 0, none⟩) n cap ∧ base ≤ g := by
  obtain ⟨_, h⟩ := h
  rcases h with ⟨_, h0⟩ | ⟨g, cap, cur, hv, hb, _⟩
  · omega
  · exact ⟨g, cap, hv, hb⟩
theorem infoH : (Tryz.prog.info? 51).map (fun i => (i.zero, i.size, i.bytes)) = some (some (.agg (hA h0)), 37, 160) := by kernel_rfl
theorem HClone_any {w : World} {ad : Addr} {n : Nat} (cap : Nat) {hs : List Hv} (H : Hs w (some ad) n hs) (hn1 : 1 ≤ n) (hn : n ≤ 4) :
    Calls Tryz.prog 31 #[.slice (some ad) n cap] w fun e w' => ∃ g c, e = .returned (.slice (some ⟨g, 0, none⟩) n c) ∧ w.heap.size ≤ g ∧ HRow w' g hs ∧ Gr w w' := by
  obtain ⟨i0, hi, hz0, hz1, hz2⟩ := info_parts infoH
  have HH : Hid (Hs w (some ad) n hs) := H
  have HL : Hid (hs.length = n) := H.len
  have HO : Hid (∀ h ∈ hs, h.Ok) := H.ok
  have he : ∀ w : World, (binOp .eql 23 (.slice (some ad) n cap) (.slice none 0 0)).run Tryz.prog w = .ok (.bool false) w := fun _ => by kernel_rfl
  clear H
  go_enter Tryz.func31, Tryz.ntmps31
  go_wp2_with (at_builtin; refine wpList_append_own _ rfl (.tmp 5) (.tmp 6) 23 rfl w.heap.size 51 i0 (.agg (hA h0)) 37 160 Tryz.underlying23 hi hz0 hz1 hz2 rfl (by decide) _ 0 [] rfl (World.ownsRow_made w #[] 0 (Nat.le_refl _) (by decide) rfl) ad n cap (hC hs) rfl (by rw [hC_len HO.out, HL.out]) (HH.out.of ((Gr.refl _).alloc _)).src (hC_one hs) (by unfold maxLen; omega) (by omega) (by simp) ?_; intro v' w1 hown hgrow _; have HOw : Hid (w1.ownsRow w.heap.size 51 37 v' n (hC hs)) := (by unfold Hid; simpa using hown); have HG : Hid (Gr w w1) := ((Gr.refl _).alloc _).grown hgrow (fun k e => Nat.le_of_eq (Option.some.inj e)); clear hown hgrow)
  obtain ⟨g, c, rfl, hg⟩ := owns_at HOw.out hn1
  have HR : Hid (HRow w1 g hs) := HRow.own HO.out HOw.out
  clear HOw
  go_ret
  exact ⟨g, c, rfl, hg, HR.out, HG.out⟩
end Go.Proofs.YtchllaeembmioaaGreatDoor.Mc
