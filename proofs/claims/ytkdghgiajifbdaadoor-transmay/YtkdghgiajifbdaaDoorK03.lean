/-
  Tk, Tl, Tt: texts of ours that lie in one file.
-/
import Derived.Test.YtkdghgiajifbdaaDoorK02
import Derived.Test.YtkdghgiajifbdaaDoorWalks6
import Derived.Test.YtkdghgiajifbdaaDoorDec3
import Derived.Test.YtkdghgiajifbdaaDoorTabs
import Derived.Test.YtkdghgiajifbdaaDoorBm2
import Derived.Test.YtkdghgiajifbdaaDoorMemArgs
import Derived.LaidMore
/-
  What package trans's sound and Make return, of whatever block. Conditions: the tables of packages decode and trans hold what their initialisers lay; the block is one that a machine can hold.
-/
namespace Go.Proofs.YtkdghgiajifbdaaDoor.Ts
open Go.ChangeShapes Go.WideShapes Go.ChangeAt Go.RowKit Mm Hc Mi Bk
open Hh hiding Rn
set_option linter.unusedVariables false
set_option linter.unusedSimpArgs false

variable {w w' : World} {sn k : Nat} {sa : Option Addr} {is : List Iv}
/-- It is an instruction: it has a word. -/
def Iv.Sound (i : Iv) : Prop := Dw.Same i.op i.rd i.r1 i.r2 i.im (Dw.Wv i.op i.rd i.r1 i.r2 i.im)
theorem Iv.Sound.fits {i : Iv} (h : i.Sound) : i.In := by
  have hv := Dw.Wv_bd i.op i.rd i.r1 i.r2 i.im
  obtain ⟨h0, h1, h2, h3, h4, h5⟩ := h
  have hb := Re.dop_bd hv.1 hv.2
  have a := rd_bd (Dc.frm (Dc.dop (Dw.Wv i.op i.rd i.r1 i.r2 i.im))) (Dw.Wv i.op i.rd i.r1 i.r2 i.im)
  have b := rs1_bd (Dc.frm (Dc.dop (Dw.Wv i.op i.rd i.r1 i.r2 i.im))) (Dw.Wv i.op i.rd i.r1 i.r2 i.im)
  have c := rs2_bd (Dc.frm (Dc.dop (Dw.Wv i.op i.rd i.r1 i.r2 i.im))) (Dw.Wv i.op i.rd i.r1 i.r2 i.im)
  rw [h2] at a
  rw [h3] at b
  rw [h4] at c
  have hne : ¬ Dc.dop (Dw.Wv i.op i.rd i.r1 i.r2 i.im) = 0 := by unfold Dw.decOk at h0; simpa using h0
  rw [h1] at hb hne
  exact ⟨by omega, hb.2, a.1, a.2, b.1, b.2, c.1, c.2⟩
theorem tabM (T : Dw.Tab w) : ∀ W : World, Gr w W → Dw.Tab W := fun W G => ⟨fun i v e => (G.cell _ (by exact Dw.lt_of_cell (T.shapes i v e))).trans (T.shapes i v e), fun i v e => (G.cell _ (by exact Dw.lt_of_cell (T.uppers i v e))).trans (T.uppers i v e)⟩
set_option maxHeartbeats 1000000 in
set_option maxRecDepth 100000 in
theorem sound_long (pc : Int) (sa : Option Addr) (sc : Nat) (h : 16 < sn) (hn : sn ≤ 140737488351232) : Calls Tryd.prog 35 #[.agg #[.int .u32 pc, .slice sa sn sc]] w fun e w' => e = .returned (.bool false) ∧ Gr w w' := by
  go_enter Tryd.func35, Tryd.ntmps35
  go_wp2_with fail
  go_ret
  exact ⟨rfl, (Gr.refl _).alloc _⟩
set_option maxHeartbeats 1000000 in
set_option maxRecDepth 100000 in
theorem sound_any (pc : Int) (sc : Nat) (I : Is w sa sn is) (T : Dw.Tab w) (h : sn ≤ 16) : Calls Tryd.prog 35 #[.agg #[.int .u32 pc, .slice sa sn sc]] w fun e w' => ∃ b, e = .returned (.bool b) ∧ (b = true ↔ ∀ i ∈ is, i.Sound) ∧ Gr w w' := by
  have HI : Hid (∀ W : World, Gr w W → Is W sa sn is) := fun W G => I.of G
  have HT : Hid (∀ W : World, Gr w W → Dw.Tab W) := tabM T
  have HL : Hid _ := I.len
  have HK : Hid _ := I.ok
  clear I T
  go_enter Tryd.func35, Tryd.ntmps35
  go_wp2_with fail
  go_loopw [14] (fun i wr => ∃ k : Nat, k ≤ sn ∧ i = .int .i64 k ∧ (∀ j c, j < k → is[j]? = some c → c.Sound) ∧ Gr w wr) (fun i _ => sn - (intOf i).toNat)
  case atStart => exact ⟨0, Nat.zero_le _, rfl, fun j c hj => absurd hj (by omega), (Gr.refl _).alloc _⟩
  case round =>
    obtain ⟨k, hk, rfl, hall, G⟩ := hrel
    have HA : Hid _ := hall
    have HG : Hid _ := G
    clear hall G
    by_cases hlt : k < sn
    · obtain ⟨c, hc⟩ : ∃ c, is[k]? = some c := ⟨_, List.getElem?_eq_getElem (by rw [HL.out]; exact hlt)⟩
      obtain ⟨b, o, rfl, hb, hcell⟩ := (HI.out wr HG.out).spot (by omega)
      obtain ⟨p0, p1, p2, p3, p4⟩ := hcell k c hc
      have hmem := List.mem_of_getElem? hc
      have ok := HK.out c hmem
      have hi := ok.im
      by_cases hs : c.Sound
      · have E : Hid (∀ W : World, Gr w W → Calls Tryd.prog 11 #[.agg #[.int .i64 c.op, .int .i64 c.rd, .int .i64 c.r1, .int .i64 c.r2, .int .i32 c.im]] W fun e w' => ∃ v, e = .returned (.tuple #[.int .u32 v, .int .i64 0]) ∧ Gr W w') := fun W G => (Dw.Encode_yes c.op c.rd c.r1 c.r2 c.im W (HT.out W G) hi.1 (by omega) hs).mono fun e w' ⟨h1, h2⟩ => ⟨_, h1, h2.1⟩
        have HN : Hid (∀ j c, j < k + 1 → is[j]? = some c → c.Sound) := fun j d hj hd => by
          by_cases e : j = k
          · subst e; rw [hc] at hd; injection hd with hd; subst hd; exact hs
          · exact HA.out j d (by omega) hd
        clear hcell hc hmem ok hi hs HA
        obtain ⟨op, rd, r1, r2, im⟩ := c
        simp only at *
        go_wp2_with fail
        refine (E.out _ (by repeat (first | exact HG.out | refine Gr.alloc ?_ _))).mono ?_
        rintro e w1 ⟨v, rfl, G1⟩
        have HG1 : Hid (Gr w w1) := Gr.trans (by repeat (first | exact HG.out | refine Gr.alloc ?_ _)) G1
        clear G1 E p0 p1 p2 p3 p4 hb
        go_wp2_with fail
        go_roundw
        case rel => exact ⟨k + 1, by omega, by go_num, HN.out, HG1.out⟩
        case measure => simp [intOf]; omega
      · have E : Hid (∀ W : World, Gr w W → Calls Tryd.prog 11 #[.agg #[.int .i64 c.op, .int .i64 c.rd, .int .i64 c.r1, .int .i64 c.r2, .int .i32 c.im]] W fun e w' => e = .returned (.tuple #[.int .u32 0, .int .i64 2]) ∧ Gr W w') := fun W G => (Dw.Encode_no c.op c.rd c.r1 c.r2 c.im W (HT.out W G) hi.1 (by omega) hs).mono fun e w' ⟨h1, h2⟩ => ⟨h1, h2.1⟩
        have HN : Hid (¬ ∀ i ∈ is, i.Sound) := fun q => hs (q c hmem)
        clear hcell hc hmem ok hi hs HA
        obtain ⟨op, rd, r1, r2, im⟩ := c
        simp only at *
        go_wp2_with fail
        refine (E.out _ (by repeat (first | exact HG.out | refine Gr.alloc ?_ _))).mono ?_
        rintro e w1 ⟨rfl, G1⟩
        have HG1 : Hid (Gr w w1) := Gr.trans (by repeat (first | exact HG.out | refine Gr.alloc ?_ _)) G1
        clear G1 E p0 p1 p2 p3 p4 hb
        go_wp2_with fail
        go_ret
        exact ⟨false, rfl, ⟨fun q => (by cases q), fun q => absurd q HN.out⟩, HG1.out⟩
    · have ek : k = sn := by omega
      have HN : Hid (∀ i ∈ is, i.Sound) := fun i hm => by
        obtain ⟨j, hj⟩ := List.mem_iff_getElem?.1 hm
        have : j < is.length := (List.getElem?_eq_some_iff.1 hj).1
        exact HA.out j i (by rw [HL.out] at this; omega) hj
      clear ek
      go_wp2_with fail
      go_ret
      exact ⟨true, rfl, ⟨fun _ => HN.out, fun _ => rfl⟩, HG.out⟩
/-- Behind an append to a row of the program's own: what is of another type is as it was, and nothing old has turned. -/
theorem grow_hold {base e sz n : Nat} {O : Value} {xs : List Value} (hO : w.ownsRow base e sz O n xs) (q : w.grownBy w' O.ownBlock) {t : Nat} (ht : t ≠ e) {o : Array Value} {f : Nat × Nat} (hk : w.heap[k]? = some (.cells o t f)) : w'.heap[k]? = some (.cells o t f) :=
  (q.block k (gs hk).1 (fun h => by
    rcases hO.2 with ⟨h0, _⟩ | ⟨g', cap, cur, hv, _, hg, _⟩
    · rw [h0] at h; cases h
    · rw [hv] at h
      injection h with h
      exact ne_of_types hk hg ht h)).trans hk
theorem heap_gr (g : Gr w w') {x : Obj} (h : w.heap[k]? = some x) : w'.heap[k]? = some x := by
  rw [Below.block g k (gs h).1]; exact h
theorem infoM : (Tryd.prog.info? 81).map (fun i => (i.zero, i.size, i.bytes)) = some (some (.agg #[.int .i64 0, .int .i64 0, .int .i64 0, .int .i64 0, .int .u32 0]), 5, 40) := by kernel_rfl
theorem mic_oneL (x0 x1 x2 x3 x4 : Int) : ∀ u ∈ ([.int .i64 x0, .int .i64 x1, .int .i64 x2, .int .i64 x3, .int .u32 x4] : List Value), u.oneCell' = true := by
  intro u hu
  simp only [List.mem_cons, List.not_mem_nil, or_false] at hu
  rcases hu with rfl | rfl | rfl | rfl | rfl <;> rfl
theorem take_snoc {α : Type} {l : List α} {c : α} (h : l[k]? = some c) : l.take (k + 1) = l.take k ++ [c] := by
  obtain ⟨hk, rfl⟩ := List.getElem?_eq_some_iff.1 h
  rw [List.take_succ_eq_append_getElem hk]
set_option maxHeartbeats 1000000 in
set_option maxRecDepth 100000 in
theorem Make_none (pc : Int) (sa : Option Addr) (sc : Nat) (hS : ∀ W : World, Gr w W → Calls Tryd.prog 35 #[.agg #[.int .u32 pc, .slice sa sn sc]] W fun e w' => e = .returned (.bool false) ∧ Gr W w') : Calls Tryd.prog 15 #[.agg #[.int .u32 pc, .slice sa sn sc]] w fun e w' => e = .returned (.slice none 0 0) ∧ Gr w w' := by
  have HS : Hid _ := hS
  clear hS
  go_enter Tryd.func15, Tryd.ntmps15
  go_wp2_with fail
  refine (HS.out _ ((Gr.refl _).alloc _)).mono ?_
  rintro e w1 ⟨rfl, G1⟩
  go_wp2_with fail
  go_ret
  exact ⟨rfl, ((Gr.refl _).alloc _).trans G1⟩
set_option maxHeartbeats 4000000 in
set_option maxRecDepth 100000 in
theorem Make_ct {w : World} (pc : Int) {sa : Option Addr} {sn : Nat} (sc : Nat) {is : List Iv} (I : Is w sa sn is) (T : Dw.Tab w) (Q : Tq w) (h : sn ≤ 16) (hs : ∀ i ∈ is, i.Sound) : Calls Tryd.prog 15 #[.agg #[.int .u32 pc, .slice sa sn sc]] w fun e w' => ∃ ca cn cc, e = .returned (.slice ca cn cc) ∧ Ct w' ca cn (codeV pc is 0) ∧ Gr w w' := by
  have HI : Hid (∀ W : World, Gr w W → Is W sa sn is) := fun W G => I.of G
  have HL : Hid (is.length = sn) := I.len
  have HS : Hid (∀ W : World, Gr w W → Calls Tryd.prog 35 #[.agg #[.int .u32 pc, .slice sa sn sc]] W fun e w' => e = .returned (.bool true) ∧ Gr W w') := fun W G => (sound_any pc sc (I.of G) (tabM T W G) h).mono fun e w' ⟨b, h1, h2, h3⟩ => ⟨by rw [h1, h2.2 hs], h3⟩
  have HM : Hid (∀ (k : Nat) (c : Iv), is[k]? = some c → ∀ W : World, Gr w W → Calls Tryd.prog 36 #[.agg #[.int .i64 c.op, .int .i64 c.rd, .int .i64 c.r1, .int .i64 c.r2, .int .i32 c.im], .int .u32 ((pc + 4 * (k : Int)) % 4294967296)] W fun e w' => ∃ v, e = .returned v ∧ Sr w' v (mdV (at4 pc k) c).length 5 (mvC (mdV (at4 pc k) c)) ∧ Gr W w') := fun k c hc W G => made_any (a := at4 pc k) (hs c (List.mem_of_getElem? hc)).fits W (Q.of G)
  have HF : Hid (∀ k, (codeV pc (is.take k) 0).length ≤ 4 * k) := fun k => by
    have := (codeV_fine pc (is.take k) 0 (fun i hi => (hs i (List.mem_of_mem_take hi)).fits)).2
    have hl : (is.take k).length ≤ k := by rw [List.length_take]; omega
    omega
  have HFm : Hid (∀ (k : Nat) (c : Iv), is[k]? = some c → (mdV (at4 pc k) c).length ≤ 3) := fun k c hc => (md_fine (hs c (List.mem_of_getElem? hc)).fits).2
  have HE : Hid ((∀ x ∈ codeV pc is 0, Mv.Fine x)) := (codeV_fine pc is 0 (fun i hi => (hs i hi).fits)).1
  have HC : Hid (∀ (k : Nat) (c : Iv), is[k]? = some c → codeV pc (is.take (k + 1)) 0 = codeV pc (is.take k) 0 ++ (⟨1, 0, 0, 0, at4 pc k⟩ :: mdV (at4 pc k) c)) := fun k c hc => by
    have hk : k < is.length := (List.getElem?_eq_some_iff.1 hc).1
    rw [take_snoc hc, codeV_snoc, Nat.zero_add, List.length_take, Nat.min_eq_left (by omega)]
  have HZ : Hid (codeV pc (is.take sn) 0 = codeV pc is 0) := by rw [Hid, ← HL.out, List.take_length]
  obtain ⟨i0, hi, hz0, hz1, hz2⟩ := info_parts infoM
  clear I T Q hs
  go_enter Tryd.func15, Tryd.ntmps15
  go_wp2_with fail
  refine (HS.out _ ((Gr.refl _).alloc _)).mono ?_
  rintro e w1 ⟨rfl, G1⟩
  have HB1 : Hid (w1.heap[w.heap.size]? = some (.cells #[.int .u32 pc, .slice sa sn sc] 34 (0, 0))) := heap_gr G1 (heap_alloc_new w _)
  have HG1 : Hid (Gr w w1) := ((Gr.refl _).alloc _).trans G1
  have q1 : w1.cell? ⟨w.heap.size, 1, none⟩ = some (.slice sa sn sc) := cell_of_row _ _ _ _ _ _ HB1.out
  clear G1 HS
  go_wp2_with fail
  go_loopw [13, 3] (fun i cd wr => ∃ (k : Nat) (a : Option Addr) (c : Nat), k ≤ sn ∧ i = .int .i64 k ∧ cd = .slice a (codeV pc (is.take k) 0).length c ∧ wr.ownsRow (w.heap.size + 1) 81 5 (.slice a (codeV pc (is.take k) 0).length c) (codeV pc (is.take k) 0).length (mvC (codeV pc (is.take k) 0)) ∧ wr.heap[w.heap.size]? = some (.cells #[.int .u32 pc, .slice sa sn sc] 34 (0, 0)) ∧ Gr w wr) (fun i _ _ => sn - (intOf i).toNat)
  case atStart => exact ⟨0, none, 0, Nat.zero_le _, rfl, rfl, World.ownsRow_nil _ _ _ _, HB1.out, HG1.out⟩
  case round =>
    obtain ⟨k, a, c0, hk, rfl, rfl, O, B, G⟩ := hrel
    have HO : Hid (wr.ownsRow (w.heap.size + 1) 81 5 (.slice a (codeV pc (is.take k) 0).length c0) (codeV pc (is.take k) 0).length (mvC (codeV pc (is.take k) 0))) := O
    have HB : Hid (wr.heap[w.heap.size]? = some (.cells #[.int .u32 pc, .slice sa sn sc] 34 (0, 0))) := B
    have HG : Hid (Gr w wr) := G
    have hlt0 : w.heap.size < wr.heap.size := (Array.getElem?_eq_some_iff.1 B).1
    have hlen := HF.out k
    clear O B G HB1 HG1 q1
    by_cases hlt : k < sn
    · obtain ⟨c, hc⟩ : ∃ c, is[k]? = some c := ⟨_, List.getElem?_eq_getElem (by rw [HL.out]; exact hlt)⟩
      obtain ⟨b, o, rfl, hb, hcell⟩ := (HI.out wr HG.out).spot (by omega)
      obtain ⟨p0, p1, p2, p3, p4⟩ := hcell k c hc
      have HM1 : Hid _ := HM.out k c hc
      have hm3 := HFm.out k c hc
      have HCk : Hid _ := HC.out k c hc
      clear hcell hc HM HFm HC HF
      generalize codeV pc (is.take k) 0 = cv at *
      generalize mdV (at4 pc k) c = md at *
      obtain ⟨op, rd, r1, r2, im⟩ := c
      simp only at *
      have HM2 : Hid (∀ W : World, Gr w W → Calls Tryd.prog 36 #[.agg #[.int .i64 op, .int .i64 rd, .int .i64 r1, .int .i64 r2, .int .i32 im], .int .u32 ((pc + 4 * (k : Int)) % 4294967296)] W fun e w' => ∃ v, e = .returned v ∧ Sr w' v md.length 5 (mvC md) ∧ Gr W w') := HM1
      have HCk2 : Hid (codeV pc (is.take (k + 1)) 0 = cv ++ (⟨1, 0, 0, 0, at4 pc k⟩ :: md)) := HCk
      have q0 : wr.cell? ⟨w.heap.size, 0, none⟩ = some (.int .u32 pc) := cell_of_row _ _ _ _ _ _ HB.out
      clear HM1 HCk
      have HL1 : Hid ((codeV pc (is.take (k + 1)) 0).length = cv.length + 1 + md.length) := by rw [Hid, HCk2.out]; simp; omega
      have HV1 : Hid (mvC (codeV pc (is.take (k + 1)) 0) = (mvC cv ++ [.int .i64 1, .int .i64 0, .int .i64 0, .int .i64 0, .int .u32 ((pc + 4 * (k : Int)) % 4294967296)]) ++ mvC md) := by rw [Hid, HCk2.out, mvC_app]; simp [mvC, mvC1, at4, Wd.lo]
      clear HCk2 hk
      have HK : Hid (k < sn) := hlt
      generalize hcn : cv.length = cn at *
      clear hcn
      go_wp2_with (at_builtin; refine wpList_append_sr rfl (.tmp 24) (.tmp 27) rfl Tryd.underlying36 hi hz0 hz1 hz2 rfl (by decide) (base := w.heap.size + 1) (n := cn) (m := 1) (v := .slice a cn c0) (vx := .slice (some ⟨wr.heap.size + 1, 0, none⟩) 1 1) (olds := mvC cv) (news := [.int .i64 1, .int .i64 0, .int .i64 0, .int .i64 0, .int .u32 ((pc + 4 * (k : Int)) % 4294967296)]) rfl rfl (owns_gr HO.out (by repeat (first | exact Gr.refl wr | refine Gr.alloc ?_ _))) (Sr.at_ (by simp) #[.int .i64 1, .int .i64 0, .int .i64 0, .int .i64 0, .int .u32 ((pc + 4 * (k : Int)) % 4294967296)] 81 1 1 rfl) (mic_oneL _ _ _ _ _) (by unfold maxLen; omega) (by omega) (by simp; omega) ?_; intro v' w2 hown hgrow; obtain ⟨a', c', rfl⟩ := shape_own hown; have HO2 : Hid (w2.ownsRow (w.heap.size + 1) 81 5 (.slice a' (cn + 1) c') (cn + 1) (mvC cv ++ [.int .i64 1, .int .i64 0, .int .i64 0, .int .i64 0, .int .u32 ((pc + 4 * (k : Int)) % 4294967296)])) := hown; have HG2 : Hid (Gr w w2) := Gr.grown (HG.out.trans (by repeat (first | exact Gr.refl wr | refine Gr.alloc ?_ _))) hgrow (fun b e => by have := (HO.out.lt b e).1; omega); have HB2 : Hid (w2.heap[w.heap.size]? = some (.cells #[.int .u32 pc, .slice (some ⟨b, o, none⟩) sn sc] 34 (0, 0))) := grow_hold (owns_gr HO.out (by repeat (first | exact Gr.refl wr | refine Gr.alloc ?_ _))) hgrow (by decide) (heap_gr (by repeat (first | exact Gr.refl wr | refine Gr.alloc ?_ _)) HB.out); have HJ2 : Hid (w2.heap[wr.heap.size]? = some (.cells #[.int .i64 op, .int .i64 rd, .int .i64 r1, .int .i64 r2, .int .i32 im] 23 (0, 0))) := grow_hold (owns_gr HO.out (by repeat (first | exact Gr.refl wr | refine Gr.alloc ?_ _))) hgrow (by decide) (heap_alloc2_old wr _ _); have r0 : w2.cell? ⟨wr.heap.size, 0, none⟩ = some (.int .i64 op) := cell_of_row _ _ _ _ _ _ HJ2.out; have r1' : w2.cell? ⟨wr.heap.size, 1, none⟩ = some (.int .i64 rd) := cell_of_row _ _ _ _ _ _ HJ2.out; have r2' : w2.cell? ⟨wr.heap.size, 2, none⟩ = some (.int .i64 r1) := cell_of_row _ _ _ _ _ _ HJ2.out; have r3' : w2.cell? ⟨wr.heap.size, 3, none⟩ = some (.int .i64 r2) := cell_of_row _ _ _ _ _ _ HJ2.out; have r4' : w2.cell? ⟨wr.heap.size, 4, none⟩ = some (.int .i32 im) := cell_of_row _ _ _ _ _ _ HJ2.out; clear hown hgrow)
      refine (HM2.out _ HG2.out).mono ?_
      rintro e w3 ⟨v, rfl, S3, G3⟩
      have HS3 : Hid (Sr w3 v md.length 5 (mvC md)) := S3
      have HG3 : Hid (Gr w2 w3) := G3
      have hb3 : w.heap.size + 1 ≤ w3.heap.size := by have := (Array.getElem?_eq_some_iff.1 HB2.out).1; have := G3.size; omega
      clear S3 G3 r0 r1' r2' r3' r4' HJ2 HM2 HO HB p0 p1 p2 p3 p4 q0
      generalize md.length = mn at *
      go_wp2_with (at_builtin; refine wpList_append_sr rfl (.tmp 29) (.tmp 32) rfl Tryd.underlying36 hi hz0 hz1 hz2 rfl (by decide) (base := w.heap.size + 1) (n := cn + 1) (m := mn) (v := .slice a' (cn + 1) c') (vx := v) (olds := mvC cv ++ [.int .i64 1, .int .i64 0, .int .i64 0, .int .i64 0, .int .u32 ((pc + 4 * (k : Int)) % 4294967296)]) (news := mvC md) rfl rfl (owns_gr HO2.out HG3.out) HS3.out (mvC_one _) (by unfold maxLen; omega) (by omega) hb3 ?_; intro v'' w4 hown hgrow; obtain ⟨a'', c'', rfl⟩ := shape_own hown; have HO4 : Hid (w4.ownsRow (w.heap.size + 1) 81 5 (.slice a'' (cn + 1 + mn) c'') (cn + 1 + mn) ((mvC cv ++ [.int .i64 1, .int .i64 0, .int .i64 0, .int .i64 0, .int .u32 ((pc + 4 * (k : Int)) % 4294967296)]) ++ mvC md)) := hown; have HG4 : Hid (Gr w w4) := Gr.grown (HG2.out.trans HG3.out) hgrow (fun b e => by have := (HO2.out.lt b e).1; omega); have HB4 : Hid (w4.heap[w.heap.size]? = some (.cells #[.int .u32 pc, .slice (some ⟨b, o, none⟩) sn sc] 34 (0, 0))) := grow_hold (owns_gr HO2.out HG3.out) hgrow (by decide) (heap_gr HG3.out HB2.out); clear hown hgrow)
      go_roundw
      case rel => exact ⟨k + 1, a'', c'', by have := HK.out; omega, by go_num, by rw [HL1.out], by rw [HL1.out, HV1.out]; exact HO4.out, HB4.out, HG4.out⟩
      case measure => simp [intOf]; have := HK.out; omega
    · have ek : k = sn := by omega
      subst ek
      have HOE : Hid (wr.ownsRow (w.heap.size + 1) 81 5 (.slice a (codeV pc is 0).length c0) (codeV pc is 0).length (mvC (codeV pc is 0))) := by have := HO.out; rwa [HZ.out] at this
      have HZ2 : Hid ((codeV pc (is.take k) 0).length = (codeV pc is 0).length) := by rw [Hid, HZ.out]
      clear HO HF HFm HM HC HI
      generalize (codeV pc (is.take k) 0).length = cn at *
      go_wp2_with fail
      go_ret
      have e := HZ2.out
      subst e
      obtain ⟨ca, cc, hv, C⟩ := ct_own HOE.out (fun i hi => (HE.out i hi).2.1) (fun i hi => by have := (HE.out i hi).2.2; omega)
      injection hv with hv1 _ hv2
      subst hv1 hv2
      exact ⟨_, _, _, rfl, C, HG.out⟩
theorem Make_some (pc : Int) (sc : Nat) (I : Is w sa sn is) (T : Dw.Tab w) (Q : Tq w) (h : sn ≤ 16) (hs : ∀ i ∈ is, i.Sound) : Calls Tryd.prog 15 #[.agg #[.int .u32 pc, .slice sa sn sc]] w fun e w' => ∃ ca cn cc, e = .returned (.slice ca cn cc) ∧ Cs w' ca cn (codeV pc is 0) ∧ Gr w w' :=
  (Make_ct pc sc I T Q h hs).mono fun e w' ⟨ca, cn, cc, h1, h2, h3⟩ => ⟨ca, cn, cc, h1, h2.cs, h3⟩
end Go.Proofs.YtkdghgiajifbdaaDoor.Ts
/-
  What package trans's Make answers: of whatever block; of one ECALL; of the block of a memory.
-/
namespace Go.Proofs.YtkdghgiajifbdaaDoor.Ts
open Go.ChangeShapes Go.WideShapes Go.ChangeAt Go.RowKit Mm Hc Mi Bk
open Hh hiding Rn
set_option linter.unusedVariables false
set_option linter.unusedSimpArgs false

variable {w : World} {sa : Option Addr} {x : Int} {xs : List Int} {b : Nat}
theorem cs_nil (w : World) : Cs w none 0 [] := ⟨rfl, fun i h => (by cases h), fun i h => (by cases h), fun h => absurd h (by omega)⟩
/-- Of whatever block: small steps that may be. -/
theorem Make_may (pc : Int) {sn : Nat} (sc : Nat) {is : List Iv} (I : Is w sa sn is) (T : Dw.Tab w) (Q : Tq w) (hn : sn ≤ 140737488351232) : Calls Tryd.prog 15 #[.agg #[.int .u32 pc, .slice sa sn sc]] w fun e w' => ∃ ca cn cc code, e = .returned (.slice ca cn cc) ∧ Cs w' ca cn code ∧ mayC code = true ∧ Gr w w' := by
  by_cases h : sn ≤ 16
  · by_cases hs : ∀ i ∈ is, i.Sound
    · refine (Make_some pc sc I T Q h hs).mono ?_
      rintro e w' ⟨ca, cn, cc, rfl, C, G⟩
      exact ⟨ca, cn, cc, _, rfl, C, codeV_may pc (fun i hi => (hs i hi).fits) (by rw [I.len]; exact h), G⟩
    · refine (Make_none pc sa sc fun W G => (sound_any pc sc (I.of G) (tabM T W G) h).mono fun e w' ⟨b, h1, h2, h3⟩ => ⟨?_, h3⟩).mono ?_
      · cases b
        · exact h1
        · exact absurd (h2.1 rfl) hs
      · rintro e w' ⟨rfl, G⟩
        exact ⟨_, _, _, [], rfl, cs_nil _, rfl, G⟩
  · refine (Make_none pc sa sc fun W G => sound_long pc sa sc (by omega) hn).mono ?_
    rintro e w' ⟨rfl, G⟩
    exact ⟨_, _, _, [], rfl, cs_nil _, rfl, G⟩
/-- Of one ECALL: some. -/
theorem Make_call {g : Nat} (T : Dw.Tab w) (Q : Tq w) (h : w.heap[g]? = some (.cells #[.int .i64 58, .int .i64 0, .int .i64 0, .int .i64 0, .int .i32 0] 23 (0, 0))) : Calls Tryd.prog 15 #[.agg #[.int .u32 0, .slice (some ⟨g, 0, none⟩) 1 1]] w fun e w' => ∃ ca cn cc, e = .returned (.slice ca cn cc) ∧ 0 < cn ∧ Gr w w' := by
  have c := fun j => cell_of_row w g j _ _ _ h
  have I : Is w (some ⟨g, 0, none⟩) 1 [⟨58, 0, 0, 0, 0⟩] := by
    refine ⟨rfl, fun i hi => ?_, fun _ => ⟨g, 0, rfl, (gs h).1, fun j i hj => ?_⟩⟩
    · rw [List.mem_singleton] at hi
      subst hi
      have z : I64 0 := by unfold I64; omega
      exact ⟨(by unfold I64; omega : I64 58), z, z, z, by decide, by decide⟩
    · match j, hj with
      | 0, hj =>
        simp at hj
        subst hj
        exact ⟨c 0, c 1, c 2, c 3, c 4⟩
  refine (Make_some 0 1 I T Q (by omega) ?_).mono ?_
  · intro i hi
    rw [List.mem_singleton] at hi
    subst hi
    exact Dw.same_9 (op := 58) (by omega) (by omega)
  · rintro e w' ⟨ca, cn, cc, rfl, C, G⟩
    refine ⟨ca, cn, cc, rfl, ?_, G⟩
    rw [← C.len]
    simp [codeV]
theorem immX_bd {v : Int} (f : Int) (h0 : 0 ≤ v) (h1 : v < 4294967296) : -2147483648 ≤ Dc.immF f v ∧ Dc.immF f v < 2147483648 := by
  unfold Dc.immF Wd.sg Dc.sgn
  repeat' split
  all_goals omega
theorem ivX_sound (h0 : 0 ≤ x) (h1 : x < 4294967296) (hx : ¬ Dc.dop x = 0) : (ivX x).Sound := by
  have b := immX_bd (Dc.frm (Dc.dop x)) h0 h1
  have hs : Dw.Same (Dc.dop x) (Dc.rdF (Dc.frm (Dc.dop x)) x) (Dc.rs1F (Dc.frm (Dc.dop x)) x) (Dc.rs2F (Dc.frm (Dc.dop x)) x) (Dc.immF (Dc.frm (Dc.dop x)) x) x := ⟨by unfold Dw.decOk; simpa using hx, rfl, rfl, rfl, rfl, rfl⟩
  exact Dw.same_of_is (Dw.is_of_same h0 h1 hs) b.1 b.2
theorem ivX_ok (h0 : 0 ≤ x) (h1 : x < 4294967296) (hx : ¬ Dc.dop x = 0) : (ivX x).Ok := by
  have i := ivX_in h0 h1 hx
  have b := immX_bd (Dc.frm (Dc.dop x)) h0 h1
  exact ⟨by have := i.o1; have := i.o2; unfold I64; omega, by have := i.d0; have := i.d1; unfold I64; omega, by have := i.a0; have := i.a1; unfold I64; omega, by have := i.b0; have := i.b1; unfold I64; omega, b.1, by show Dc.immF (Dc.frm (Dc.dop x)) x ≤ 2147483647; omega⟩
/-- Words that are instructions, each. -/
def Words (xs : List Int) : Prop := ∀ x ∈ xs, 0 ≤ x ∧ x < 4294967296 ∧ ¬ Dc.dop x = 0
theorem is_own {base : Nat} {sc : Nat} (O : w.ownsRow base 23 5 (.slice sa xs.length sc) xs.length (blC xs)) (hx : Words xs) : Is w sa xs.length (xs.map ivX) := by
  refine ⟨by simp, fun i hi => ?_, fun h0 => ?_⟩
  · obtain ⟨x, hm, rfl⟩ := List.mem_map.1 hi
    obtain ⟨a, b, c⟩ := hx x hm
    exact ivX_ok a b c
  · obtain ⟨g, c, e, hg, hc⟩ := at_own O h0
    injection e with e1 _ _
    refine ⟨g, 0, e1, hg, fun j i hj => ?_⟩
    rw [List.getElem?_map] at hj
    cases hxj : xs[j]? with
    | none => rw [hxj] at hj; cases hj
    | some x =>
      rw [hxj] at hj
      simp at hj
      subst hj
      rw [Nat.zero_add]
      have q := fun t (ht : t < 5) => blC_get xs j t x hxj ht
      refine ⟨hc _ _ ?_, hc _ _ ?_, hc _ _ ?_, hc _ _ ?_, hc _ _ ?_⟩
      · have := q 0 (by omega); rwa [Nat.add_zero] at this
      · exact q 1 (by omega)
      · exact q 2 (by omega)
      · exact q 3 (by omega)
      · exact q 4 (by omega)
theorem blk_words (l : List UInt8) (pc : Int) : Words (blk l pc 16 0) := fun x hx => by
  obtain ⟨j, hj⟩ := List.mem_iff_getElem?.1 hx
  obtain ⟨a, b, _⟩ := (blk_facts l pc 16 0).2 j (List.getElem?_eq_some_iff.1 hj).1
  rw [Nat.zero_add] at a b
  rw [b] at hj
  injection hj with hj
  subst hj
  have := W.ldV l 13 (at4 pc j)
  exact ⟨this.1, this.2, (ft_zero a).2⟩
/-- Of words that are instructions, up to 16. -/
theorem Make_ctw (pc : Int) (sc : Nat) (O : w.ownsRow b 23 5 (.slice sa xs.length sc) xs.length (blC xs)) (hx : Words xs) (T : Dw.Tab w) (Q : Tq w) (hn : xs.length ≤ 16) : Calls Tryd.prog 15 #[.agg #[.int .u32 pc, .slice sa xs.length sc]] w fun e w' => ∃ ca cn cc, e = .returned (.slice ca cn cc) ∧ Ct w' ca cn (codeV pc (xs.map ivX) 0) ∧ Gr w w' :=
  Make_ct pc sc (is_own O hx) T Q hn fun i hi => by
    obtain ⟨x, hm, rfl⟩ := List.mem_map.1 hi
    obtain ⟨a, b, c⟩ := hx x hm
    exact ivX_sound a b c
theorem Make_words (pc : Int) (sc : Nat) (O : w.ownsRow b 23 5 (.slice sa xs.length sc) xs.length (blC xs)) (hx : Words xs) (T : Dw.Tab w) (Q : Tq w) (hn : xs.length ≤ 16) : Calls Tryd.prog 15 #[.agg #[.int .u32 pc, .slice sa xs.length sc]] w fun e w' => ∃ ca cn cc, e = .returned (.slice ca cn cc) ∧ Cs w' ca cn (codeV pc (xs.map ivX) 0) ∧ Gr w w' :=
  (Make_ctw pc sc O hx T Q hn).mono fun e w' ⟨ca, cn, cc, h1, h2, h3⟩ => ⟨ca, cn, cc, h1, h2.cs, h3⟩
end Go.Proofs.YtkdghgiajifbdaaDoor.Ts
/-
  The tables of packages decode and trans, out of the card's condition; the document's block, whatever the memory.
-/
namespace Go.Proofs.YtkdghgiajifbdaaDoor.Ts
open Go.ChangeShapes Go.WideShapes Go.ChangeAt Go.RowKit Mm Hc Mi Bk
open Hh hiding Rn
set_option linter.unusedVariables false
set_option linter.unusedSimpArgs false

variable {W : World} {ao : Option Addr}
theorem gOpers : Tryd.prog.globalNamed "ferrybridge/trans.operations" = some 1 := by kernel_rfl
theorem tOpers : (Tryd.prog.globals[1]?).map (·.type) = some 118 := by kernel_rfl
theorem lookOpersT : (List.range 28).map (Dw.look Tryd.prog 3 118 (Rows.laid_ferrybridge_trans_operations (H := Unit))) = opersL.map fun n => some (.int .i64 n) := by kernel_rfl
def laidT {H : Type} : List (String × DataW H) := [("ferrybridge/decode.shapes", Rows.laid_ferrybridge_decode_shapes), ("ferrybridge/decode.uppers", Rows.laid_ferrybridge_decode_uppers), ("ferrybridge/trans.operations", Rows.laid_ferrybridge_trans_operations)]
/-- The condition gives the tables. -/
theorem tabsT (h : laidMetH Tryd.prog [("ferrybridge/decode.shapes", Rows.laid_ferrybridge_decode_shapes), ("ferrybridge/decode.uppers", Rows.laid_ferrybridge_decode_uppers), ("ferrybridge/trans.operations", Rows.laid_ferrybridge_trans_operations)] W) : Dw.Tab W ∧ Tq W := by
  rw [MakeChecks.laidMetH_plain _ _ _ (by kernel_rfl)] at h
  obtain ⟨ps, ⟨g0, t0, cs0, f0, p0, q0, hg0, ht0, hv0, hd0, ⟨g1, t1, cs1, f1, p1, q1, hg1, ht1, hv1, hd1, ⟨g2, t2, cs2, f2, p2, q2, hg2, ht2, hv2, hd2, _, _⟩, _⟩, _⟩, _, _⟩ := h
  obtain rfl := Option.some.inj (Dw.gShapes.symm.trans hg0)
  obtain rfl := Option.some.inj (Dw.gUppers.symm.trans hg1)
  obtain rfl := Option.some.inj (gOpers.symm.trans hg2)
  obtain rfl := Option.some.inj (Dw.tShapes.symm.trans ht0)
  obtain rfl := Option.some.inj (Dw.tUppers.symm.trans ht1)
  obtain rfl := Option.some.inj (tOpers.symm.trans ht2)
  refine ⟨⟨fun i v hi => ?_, fun i n hi => ?_⟩, fun i n hi => ?_⟩
  · have := Dw.look_cell 5 hd0 (Dw.look_of Dw.lookShapes hi)
    rw [World.var?_cell hg0 hv0 i]; simpa using this
  · have := Dw.look_cell 3 hd1 (Dw.look_of (l := Dc.uppers.map fun n => .int .u32 n) (i := i) (v := .int .u32 n) (by rw [Dw.lookUppers]; simp [Function.comp_def]) (by simp [hi]))
    rw [World.var?_cell hg1 hv1 i]; simpa using this
  · have := Dw.look_cell 3 hd2 (Dw.look_of (l := opersL.map fun n => .int .i64 n) (i := i) (v := .int .i64 n) (by rw [lookOpersT]; simp [Function.comp_def]) (by simp [hi]))
    rw [World.var?_cell hg2 hv2 i]; simpa using this
/-- The door's own heap meets the condition: three closed facts. -/
theorem doorT (os : Os) (args : Array Value) : laidMetH Tryd.prog laidT ((World.doorLaid Tryd.prog 400 os).forCall (fun _ _ => 0) ⟨#[], args, []⟩).memory :=
  laidMetH_of_parts3 (fuel := 8) (laidMet_of_run' 8 (by kernel_rfl) (by kernel_rfl)) (by kernel_rfl) (by kernel_rfl)
theorem RMk_any {w : World} {n : Nat} (cap : Nat) {l : List UInt8} (pc : Int) (M : Mem w ao n l) (hn : n ≤ 140737488351232) (h0 : 0 ≤ pc) (h1 : pc < 4294967296) :
    Calls Tryd.prog 17 #[.slice ao n cap, .int .u32 pc] w fun e w' => ∃ sa sc, e = .returned (.agg #[.int .u32 (bkP n pc), .slice sa (bkX n l pc).length sc]) ∧ w'.ownsRow w.heap.size 23 5 (.slice sa (bkX n l pc).length sc) (bkX n l pc).length (blC (bkX n l pc)) ∧ Gr w w' := by
  by_cases h : n ≤ 4096
  · refine (RMake_yes cap pc M h h0 h1).mono ?_
    rintro e w' ⟨v, rfl, O, G⟩
    obtain ⟨sa, sc, rfl⟩ := shape_own O
    exact ⟨sa, sc, rfl, O, G⟩
  · refine (RMake_no ao cap l pc (by omega) hn).mono ?_
    rintro e w' ⟨v, rfl, O, G⟩
    obtain ⟨sa, sc, rfl⟩ := shape_own O
    exact ⟨sa, sc, rfl, O, G⟩
theorem bkX_words (n : Nat) (l : List UInt8) (pc : Int) : Words (bkX n l pc) ∧ (bkX n l pc).length ≤ 16 := by
  unfold bkX
  split
  · exact ⟨fun x h => (by cases h), by simp⟩
  · exact ⟨blk_words l pc, (blk_facts l pc 16 0).1⟩
theorem open_capT {H : Type} {enc : TypeId × Value → H} {fuel : Nat} {len cap : Nat} {d : DataW H} {p : List MemPlace}
    (hf : DataW.trod enc Tryd.prog W 0 (fun _ => true) true fuel 35 (Value.slice ao len cap).cells.toList = some (d, p)) : ao = none → cap = 0 := by
  rcases open_ints Tryd.underlying35 Tryd.underlying5 cells5 hf with ⟨hcs, _⟩ | ⟨a, len', cap', zs, hcs, _⟩
  · simp [Value.cells] at hcs
    exact fun _ => hcs.2.2
  · simp [Value.cells] at hcs
    intro h
    rw [h] at hcs
    cases hcs.1
end Go.Proofs.YtkdghgiajifbdaaDoor.Ts
