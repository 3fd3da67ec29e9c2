/-
  Walks6, Tk, Ref2da, Ref2db, Ref2dc, Ref2dd, Dec2: texts of ours that lie in one file.
-/
import Derived.Test.YtchllaeembmioaaGreatDoorR12
import Derived.Test.YtchllaeembmioaaGreatDoorR24
import Derived.Test.YtchllaeembmioaaGreatDoorR10
set_option linter.unusedVariables false
set_option linter.unusedSimpArgs false
set_option maxHeartbeats 8000000
set_option maxRecDepth 100000
namespace Go.Proofs.YtchllaeembmioaaGreatDoor.Dw
open Go.ChangeShapes Go.WideShapes Go.ChangeAt Go.RowKit

def Wv (op rd rs1 rs2 imm : Int) : Int :=
  bits .or .u32 (bits .or .u32 (Dc.tbits op) (bits .or .u32 (bits .or .u32 (rd % 4294967296 * 128 % 4294967296) (rs1 % 4294967296 * 32768 % 4294967296)) (rs2 % 4294967296 * 1048576 % 4294967296))) (wI (Dc.frm op) (imm % 4294967296))
theorem Wv_bd (op rd rs1 rs2 imm : Int) : 0 ≤ Wv op rd rs1 rs2 imm ∧ Wv op rd rs1 rs2 imm < 4294967296 := by
  have h : (Lit.int .u32 (Wv op rd rs1 rs2 imm)).wf = true := wf_bits _ _ _ _
  have h' : 0 ≤ Wv op rd rs1 rs2 imm ∧ Wv op rd rs1 rs2 imm ≤ 4294967295 := by simpa [Lit.wf, IntKind.min, IntKind.max, IntKind.signed, IntKind.bits] using h
  omega
theorem written_any (op rd rs1 rs2 imm : Int) (w : World) (T : Tab w) (h0 : -2147483648 ≤ imm) (h1 : imm < 2147483648) :
    Calls Tryz.prog 141 #[insV op rd rs1 rs2 imm] w fun e w' => e = .returned (.int .u32 (Wv op rd rs1 rs2 imm)) ∧ Gr w w' := by
  unfold insV
  go_enter Tryz.func141, Tryz.ntmps141
  go_wp2_with fail
  refine (told_any op _ (T.of ((Gr.refl _).alloc _ _))).mono ?_
  rintro e w1 ⟨rfl, g⟩
  have hfb := Dc.frm_bd op
  have T1 := (T.of ((Gr.refl _).alloc _ _)).of g
  obtain ⟨f1, f2, f3⟩ := fresh_of g
  have r0 := f1 0 _ rfl
  have r1 := f1 1 _ rfl
  have r2 := f1 2 _ rfl
  have r3 := f1 3 _ rfl
  have r4 := f1 4 _ rfl
  have G1 : Hid (Gr w w1) := ((Gr.refl _).alloc _ _).trans g
  have W1 : Hid (WrittenImm (Dc.frm op)) := writtenImm_any (Dc.frm op) hfb.1 hfb.2
  clear f1 g T
  go_wp2_with fail
  refine (W1.out imm _ T1 h0 h1).mono ?_
  rintro e w2 ⟨rfl, g2⟩
  clear T1
  go_wp2_with fail
  go_ret
  exact ⟨rfl, G1.out.trans g2⟩
def Same (op rd rs1 rs2 imm v : Int) : Prop := decOk v = true ∧ Dc.dop v = op ∧ Dc.rdF (Dc.frm (Dc.dop v)) v = rd ∧ Dc.rs1F (Dc.frm (Dc.dop v)) v = rs1 ∧ Dc.rs2F (Dc.frm (Dc.dop v)) v = rs2 ∧ Dc.immF (Dc.frm (Dc.dop v)) v = imm
theorem Encode_no (op rd rs1 rs2 imm : Int) (w : World) (T : Tab w) (h0 : -2147483648 ≤ imm) (h1 : imm < 2147483648) (hn : ¬ Same op rd rs1 rs2 imm (Wv op rd rs1 rs2 imm)) :
    Calls Tryz.prog 116 #[insV op rd rs1 rs2 imm] w fun e w' => e = .returned (.tuple #[.int .u32 0, .int .i64 2]) ∧ Gr w w' := by
  have hb := Wv_bd op rd rs1 rs2 imm
  have HW := fun w T => written_any op rd rs1 rs2 imm w T h0 h1
  have HD := fun w T => Decode_any (Wv op rd rs1 rs2 imm) w T hb.1 hb.2
  generalize Wv op rd rs1 rs2 imm = v at *
  unfold decV at HD
  unfold Same at hn
  generalize Dc.rdF (Dc.frm (Dc.dop v)) v = x1 at *
  generalize Dc.rs1F (Dc.frm (Dc.dop v)) v = x2 at *
  generalize Dc.rs2F (Dc.frm (Dc.dop v)) v = x3 at *
  generalize Dc.immF (Dc.frm (Dc.dop v)) v = x4 at *
  generalize Dc.dop v = x0 at *
  generalize decOk v = b at *
  have N : Hid (¬ (b = true ∧ x0 = op ∧ x1 = rd ∧ x2 = rs1 ∧ x3 = rs2 ∧ x4 = imm)) := hn
  clear hn
  unfold insV at *
  have HW' : Hid (∀ w : World, Tab w → Calls Tryz.prog 141 #[.agg #[.int .i64 op, .int .i64 rd, .int .i64 rs1, .int .i64 rs2, .int .i32 imm]] w fun e w' => e = .returned (.int .u32 v) ∧ Gr w w') := HW
  have HD' : Hid (∀ w : World, Tab w → Calls Tryz.prog 86 #[.int .u32 v] w fun e w' => e = .returned (.tuple #[.agg #[.int .i64 x0, .int .i64 x1, .int .i64 x2, .int .i64 x3, .int .i32 x4], .bool b]) ∧ Gr w w') := HD
  clear HW HD
  go_enter Tryz.func116, Tryz.ntmps116
  go_wp2_with fail
  refine (HW'.out _ (T.of ((Gr.refl _).alloc _ _))).mono ?_
  rintro e w1 ⟨rfl, g⟩
  have T1 := (T.of ((Gr.refl _).alloc _ _)).of g
  have G1 : Hid (Gr (w.alloc (.cells #[.int .i64 op, .int .i64 rd, .int .i64 rs1, .int .i64 rs2, .int .i32 imm] 77)) w1) := g
  clear g T HW'
  go_wp2_with fail
  refine (HD'.out _ T1).mono ?_
  rintro e w2 ⟨rfl, g2⟩
  have g := G1.out.trans g2
  obtain ⟨f1, f2, f3⟩ := fresh_of g
  have r0 := f1 0 _ rfl
  have r1 := f1 1 _ rfl
  have r2 := f1 2 _ rfl
  have r3 := f1 3 _ rfl
  have r4 := f1 4 _ rfl
  have G2 : Hid (Gr w w2) := ((Gr.refl _).alloc _ _).trans g
  clear f1 g g2 T1 G1 HD'
  cases b
  · go_wp2_with fail
    all_goals
      go_ret2
      exact ⟨rfl, G2.out.alloc _ _⟩
  · go_wp2_with fail
    all_goals
      first
        | (go_ret2; exact ⟨rfl, G2.out.alloc _ _⟩)
        | exact (N.out ⟨(by first | rfl | trivial | assumption), (by first | rfl | trivial | assumption), (by first | rfl | trivial | assumption), (by first | rfl | trivial | assumption), (by first | rfl | trivial | assumption), (by first | rfl | trivial | assumption)⟩).elim
theorem Encode_yes (op rd rs1 rs2 imm : Int) (w : World) (T : Tab w) (h0 : -2147483648 ≤ imm) (h1 : imm < 2147483648) (hy : Same op rd rs1 rs2 imm (Wv op rd rs1 rs2 imm)) :
    Calls Tryz.prog 116 #[insV op rd rs1 rs2 imm] w fun e w' => e = .returned (.tuple #[.int .u32 (Wv op rd rs1 rs2 imm), .int .i64 0]) ∧ Gr w w' := by
  have hb := Wv_bd op rd rs1 rs2 imm
  have HW := fun w T => written_any op rd rs1 rs2 imm w T h0 h1
  have HD := fun w T => Decode_any (Wv op rd rs1 rs2 imm) w T hb.1 hb.2
  generalize Wv op rd rs1 rs2 imm = v at *
  unfold decV at HD
  unfold Same at hy
  generalize Dc.rdF (Dc.frm (Dc.dop v)) v = x1 at *
  generalize Dc.rs1F (Dc.frm (Dc.dop v)) v = x2 at *
  generalize Dc.rs2F (Dc.frm (Dc.dop v)) v = x3 at *
  generalize Dc.immF (Dc.frm (Dc.dop v)) v = x4 at *
  generalize Dc.dop v = x0 at *
  generalize decOk v = b at *
  obtain ⟨hb1, e0, e1, e2, e3, e4⟩ := hy
  subst hb1
  rw [e0, e1, e2, e3, e4] at HD
  clear e0 e1 e2 e3 e4
  unfold insV at *
  have HW' : Hid (∀ w : World, Tab w → Calls Tryz.prog 141 #[.agg #[.int .i64 op, .int .i64 rd, .int .i64 rs1, .int .i64 rs2, .int .i32 imm]] w fun e w' => e = .returned (.int .u32 v) ∧ Gr w w') := HW
  have HD' : Hid (∀ w : World, Tab w → Calls Tryz.prog 86 #[.int .u32 v] w fun e w' => e = .returned (.tuple #[.agg #[.int .i64 op, .int .i64 rd, .int .i64 rs1, .int .i64 rs2, .int .i32 imm], .bool true]) ∧ Gr w w') := HD
  clear HW HD
  go_enter Tryz.func116, Tryz.ntmps116
  go_wp2_with fail
  refine (HW'.out _ (T.of ((Gr.refl _).alloc _ _))).mono ?_
  rintro e w1 ⟨rfl, g⟩
  have T1 := (T.of ((Gr.refl _).alloc _ _)).of g
  have G1 : Hid (Gr (w.alloc (.cells #[.int .i64 op, .int .i64 rd, .int .i64 rs1, .int .i64 rs2, .int .i32 imm] 77)) w1) := g
  clear g T HW'
  go_wp2_with fail
  refine (HD'.out _ T1).mono ?_
  rintro e w2 ⟨rfl, g2⟩
  have g := G1.out.trans g2
  obtain ⟨f1, f2, f3⟩ := fresh_of g
  have r0 := f1 0 _ rfl
  have r1 := f1 1 _ rfl
  have r2 := f1 2 _ rfl
  have r3 := f1 3 _ rfl
  have r4 := f1 4 _ rfl
  have G2 : Hid (Gr w w2) := ((Gr.refl _).alloc _ _).trans g
  clear f1 g g2 T1 G1 HD'
  go_wp2_with fail
  go_ret2
  exact ⟨rfl, G2.out.alloc _ _⟩
end Go.Proofs.YtchllaeembmioaaGreatDoor.Dw
namespace Go.Proofs.YtchllaeembmioaaGreatDoor.Ts
open Go.ChangeShapes Go.WideShapes Go.ChangeAt Go.RowKit Mm Hc Mi Bk
open Hh hiding Rn

def Iv.Sound (i : Iv) : Prop := Dw.Same i.op i.rd i.r1 i.r2 i.im (Dw.Wv i.op i.rd i.r1 i.r2 i.im)
theorem Iv.Sound.fits {i : Iv} (h : i.Sound) : i.In := by
  have hv := Dw.Wv_bd i.op i.rd i.r1 i.r2 i.im
  obtain ⟨h0, h1, h2, h3, h4, h5⟩ := h
  have hb := Re.dop_bd hv.1 hv.2
  have a := rd_bd (Dc.frm (Dc.dop (Dw.Wv i.op i.rd i.r1 i.r2 i.im))) (Dw.Wv i.op i.rd i.r1 i.r2 i.im)
  have b := rs1_bd (Dc.frm (Dc.dop (Dw.Wv i.op i.rd i.r1 i.r2 i.im))) (Dw.Wv i.op i.rd i.r1 i.r2 i.im)
  have c := rs2_bd (Dc.frm (Dc.dop (Dw.Wv i.op i.rd i.r1 i.r2 i.im))) (Dw.Wv i.op i.rd i.r1 i.r2 i.im)
  rw [h2] at a
  rw [h3] at b
  rw [h4] at c
  have hne : ¬ Dc.dop (Dw.Wv i.op i.rd i.r1 i.r2 i.im) = 0 := by unfold Dw.decOk at h0; simpa using h0
  rw [h1] at hb hne
  exact ⟨by omega, hb.2, a.1, a.2, b.1, b.2, c.1, c.2⟩
theorem tabM {w : World} (T : Dw.Tab w) : ∀ W : World, Gr w W → Dw.Tab W := fun W G => ⟨fun i v e => (G.cell _ (by exact Dw.lt_of_cell (T.shapes i v e))).trans (T.shapes i v e), fun i v e => (G.cell _ (by exact Dw.lt_of_cell (T.uppers i v e))).trans (T.uppers i v e)⟩
theorem sound_any {w : World} (pc : Int) {sa : Option Addr} {sn : Nat} (sc : Nat) {is : List Iv} (I : Is w sa sn is) (T : Dw.Tab w) (h : sn ≤ 16) : Calls Tryz.prog 95 #[.agg #[.int .u32 pc, .slice sa sn sc]] w fun e w' => ∃ b, e = .returned (.bool b) ∧ (b = true ↔ ∀ i ∈ is, i.Sound) ∧ Gr w w' := by
  have HI : Hid (∀ W : World, Gr w W → Is W sa sn is) := fun W G => I.of G
  have HT : Hid (∀ W : World, Gr w W → Dw.Tab W) := tabM T
  have HL : Hid (is.length = sn) := I.len
  have HK : Hid (∀ i ∈ is, i.Ok) := I.ok
  clear I T
  go_enter Tryz.func95, Tryz.ntmps95
  go_wp2_with fail
  go_loopw [14] (fun i wr => ∃ k : Nat, k ≤ sn ∧ i = .int .i64 k ∧ (∀ j c, j < k → is[j]? = some c → c.Sound) ∧ Gr w wr) (fun i _ => sn - (intOf i).toNat)
  case atStart => exact ⟨0, Nat.zero_le _, rfl, fun j c hj => absurd hj (by omega), (Gr.refl _).alloc _⟩
  case round =>
    obtain ⟨k, hk, rfl, hall, G⟩ := hrel
    have HA : Hid (∀ j c, j < k → is[j]? = some c → c.Sound) := hall
    have HG : Hid (Gr w wr) := G
    clear hall G
    by_cases hlt : k < sn
    · obtain ⟨c, hc⟩ : ∃ c, is[k]? = some c := ⟨_, List.getElem?_eq_getElem (by rw [HL.out]; exact hlt)⟩
      obtain ⟨b, o, rfl, hb, hcell⟩ := (HI.out wr HG.out).spot (by omega)
      obtain ⟨p0, p1, p2, p3, p4⟩ := hcell k c hc
      have hmem := List.mem_of_getElem? hc
      have ok := HK.out c hmem
      have hi := ok.im
      by_cases hs : c.Sound
      · have E : Hid (∀ W : World, Gr w W → Calls Tryz.prog 116 #[.agg #[.int .i64 c.op, .int .i64 c.rd, .int .i64 c.r1, .int .i64 c.r2, .int .i32 c.im]] W fun e w' => ∃ v, e = .returned (.tuple #[.int .u32 v, .int .i64 0]) ∧ Gr W w') := fun W G => (Dw.Encode_yes c.op c.rd c.r1 c.r2 c.im W (HT.out W G) hi.1 (by omega) hs).mono fun e w' ⟨h1, h2⟩ => ⟨_, h1, h2.1⟩
        have HN : Hid (∀ j c, j < k + 1 → is[j]? = some c → c.Sound) := fun j d hj hd => by
          by_cases e : j = k
          · subst e; rw [hc] at hd; injection hd with hd; subst hd; exact hs
          · exact HA.out j d (by omega) hd
        clear hcell hc hmem ok hi hs HA
        obtain ⟨op, rd, r1, r2, im⟩ := c
        simp only at *
        go_wp2_with fail
        refine (E.out _ (by repeat (first | exact HG.out | refine Gr.alloc ?_ _))).mono ?_
        rintro e w1 ⟨v, rfl, G1⟩
        have HG1 : Hid (Gr w w1) := Gr.trans (by repeat (first | exact HG.out | refine Gr.alloc ?_ _)) G1
        clear G1 E p0 p1 p2 p3 p4 hb
        go_wp2_with fail
        go_roundw
        case rel => exact ⟨k + 1, by omega, by go_num, HN.out, HG1.out⟩
        case measure => simp [intOf]; omega
      · have E : Hid (∀ W : World, Gr w W → Calls Tryz.prog 116 #[.agg #[.int .i64 c.op, .int .i64 c.rd, .int .i64 c.r1, .int .i64 c.r2, .int .i32 c.im]] W fun e w' => e = .returned (.tuple #[.int .u32 0, .int .i64 2]) ∧ Gr W w') := fun W G => (Dw.Encode_no c.op c.rd c.r1 c.r2 c.im W (HT.out W G) hi.1 (by omega) hs).mono fun e w' ⟨h1, h2⟩ => ⟨h1, h2.1⟩
        have HN : Hid (¬ ∀ i ∈ is, i.Sound) := fun q => hs (q c hmem)
        clear hcell hc hmem ok hi hs HA
        obtain ⟨op, rd, r1, r2, im⟩ := c
        simp only at *
        go_wp2_with fail
        refine (E.out _ (by repeat (first | exact HG.out | refine Gr.alloc ?_ _))).mono ?_
        rintro e w1 ⟨rfl, G1⟩
        have HG1 : Hid (Gr w w1) := Gr.trans (by repeat (first | exact HG.out | refine Gr.alloc ?_ _)) G1
        clear G1 E p0 p1 p2 p3 p4 hb
        go_wp2_with fail
        go_ret
        exact ⟨false, rfl, ⟨fun q => (by cases q), fun q => absurd q HN.out⟩, HG1.out⟩
    · have ek : k = sn := by omega
      have HN : Hid (∀ i ∈ is, i.Sound) := fun i hm => by
        obtain ⟨j, hj⟩ := List.mem_iff_getElem?.1 hm
        have : j < is.length := (List.getElem?_eq_some_iff.1 hj).1
        exact HA.out j i (by rw [HL.out] at this; omega) hj
      clear ek
      go_wp2_with fail
      go_ret
      exact ⟨true, rfl, ⟨fun _ => HN.out, fun _ => rfl⟩, HG.out⟩
theorem grow_hold {w w' : World} {base e sz n : Nat} {O : Value} {xs : List Value} (hO : w.ownsRow base e sz O n xs) (q : w.grownBy w' O.ownBlock) {t : Nat} (ht : t ≠ e) {k : Nat} {o : Array Value} {f : Nat × Nat} (hk : w.heap[k]? = some (.cells o t f)) : w'.heap[k]? = some (.cells o t f) :=
  (q.block k (Array.getElem?_eq_some_iff.1 hk).1 (fun h => by
    rcases hO.2 with ⟨h0, _⟩ | ⟨g', cap, cur, hv, _, hg, _⟩
    · rw [h0] at h; cases h
    · rw [hv] at h
      injection h with h
      exact ne_of_types hk hg ht h)).trans hk
theorem heap_gr {w w' : World} (g : Gr w w') {k : Nat} {x : Obj} (h : w.heap[k]? = some x) : w'.heap[k]? = some x := by
  rw [Below.block g k (Array.getElem?_eq_some_iff.1 h).1]; exact h
theorem infoM : (Tryz.prog.info? 166).map (fun i => (i.zero, i.size, i.bytes)) = some (some (.agg #[.int .i64 0, .int .i64 0, .int .i64 0, .int .i64 0, .int .u32 0]), 5, 40) := by kernel_rfl
theorem mic_oneL (x0 x1 x2 x3 x4 : Int) : ∀ u ∈ ([.int .i64 x0, .int .i64 x1, .int .i64 x2, .int .i64 x3, .int .u32 x4] : List Value), u.oneCell' = true := by
  intro u hu
  simp only [List.mem_cons, List.not_mem_nil, or_false] at hu
  rcases hu with rfl | rfl | rfl | rfl | rfl <;> rfl
theorem take_snoc {α : Type} {l : List α} {k : Nat} {c : α} (h : l[k]? = some c) : l.take (k + 1) = l.take k ++ [c] := by
  obtain ⟨hk, rfl⟩ := List.getElem?_eq_some_iff.1 h
  rw [List.take_succ_eq_append_getElem hk]
theorem Make_ct {w : World} (pc : Int) {sa : Option Addr} {sn : Nat} (sc : Nat) {is : List Iv} (I : Is w sa sn is) (T : Dw.Tab w) (Q : Tq w) (h : sn ≤ 16) (hs : ∀ i ∈ is, i.Sound) : Calls Tryz.prog 72 #[.agg #[.int .u32 pc, .slice sa sn sc]] w fun e w' => ∃ ca cn cc, e = .returned (.slice ca cn cc) ∧ Ct w' ca cn (codeV pc is 0) ∧ Gr w w' := by
  have HI : Hid (∀ W : World, Gr w W → Is W sa sn is) := fun W G => I.of G
  have HL : Hid (is.length = sn) := I.len
  have HS : Hid (∀ W : World, Gr w W → Calls Tryz.prog 95 #[.agg #[.int .u32 pc, .slice sa sn sc]] W fun e w' => e = .returned (.bool true) ∧ Gr W w') := fun W G => (sound_any pc sc (I.of G) (tabM T W G) h).mono fun e w' ⟨b, h1, h2, h3⟩ => ⟨by rw [h1, h2.2 hs], h3⟩
  have HM : Hid (∀ (k : Nat) (c : Iv), is[k]? = some c → ∀ W : World, Gr w W → Calls Tryz.prog 96 #[.agg #[.int .i64 c.op, .int .i64 c.rd, .int .i64 c.r1, .int .i64 c.r2, .int .i32 c.im], .int .u32 ((pc + 4 * (k : Int)) % 4294967296)] W fun e w' => ∃ v, e = .returned v ∧ Sr w' v (mdV (at4 pc k) c).length 5 (mvC (mdV (at4 pc k) c)) ∧ Gr W w') := fun k c hc W G => made_any (a := at4 pc k) (hs c (List.mem_of_getElem? hc)).fits W (Q.of G)
  have HF : Hid (∀ k, (codeV pc (is.take k) 0).length ≤ 4 * k) := fun k => by
    have := (codeV_fine pc (is.take k) 0 (fun i hi => (hs i (List.mem_of_mem_take hi)).fits)).2
    have hl : (is.take k).length ≤ k := by rw [List.length_take]; omega
    omega
  have HFm : Hid (∀ (k : Nat) (c : Iv), is[k]? = some c → (mdV (at4 pc k) c).length ≤ 3) := fun k c hc => (md_fine (hs c (List.mem_of_getElem? hc)).fits).2
  have HE : Hid ((∀ x ∈ codeV pc is 0, Mv.Fine x)) := (codeV_fine pc is 0 (fun i hi => (hs i hi).fits)).1
  have HC : Hid (∀ (k : Nat) (c : Iv), is[k]? = some c → codeV pc (is.take (k + 1)) 0 = codeV pc (is.take k) 0 ++ (⟨1, 0, 0, 0, at4 pc k⟩ :: mdV (at4 pc k) c)) := fun k c hc => by
    have hk : k < is.length := (List.getElem?_eq_some_iff.1 hc).1
    rw [take_snoc hc, codeV_snoc, Nat.zero_add, List.length_take, Nat.min_eq_left (by omega)]
  have HZ : Hid (codeV pc (is.take sn) 0 = codeV pc is 0) := by rw [Hid, ← HL.out, List.take_length]
  obtain ⟨i0, hi, hz0, hz1, hz2⟩ := info_parts infoM
  clear I T Q hs
  go_enter Tryz.func72, Tryz.ntmps72
  go_wp2_with fail
  refine (HS.out _ ((Gr.refl _).alloc _)).mono ?_
  rintro e w1 ⟨rfl, G1⟩
  have HB1 : Hid (w1.heap[w.heap.size]? = some (.cells #[.int .u32 pc, .slice sa sn sc] 45 (0, 0))) := heap_gr G1 (heap_alloc_new w _)
  have HG1 : Hid (Gr w w1) := ((Gr.refl _).alloc _).trans G1
  have q1 : w1.cell? ⟨w.heap.size, 1, none⟩ = some (.slice sa sn sc) := cell_of_row _ _ _ _ _ _ HB1.out
  clear G1 HS
  go_wp2_with fail
  go_loopw [13, 3] (fun i cd wr => ∃ (k : Nat) (a : Option Addr) (c : Nat), k ≤ sn ∧ i = .int .i64 k ∧ cd = .slice a (codeV pc (is.take k) 0).length c ∧ wr.ownsRow (w.heap.size + 1) 166 5 (.slice a (codeV pc (is.take k) 0).length c) (codeV pc (is.take k) 0).length (mvC (codeV pc (is.take k) 0)) ∧ wr.heap[w.heap.size]? = some (.cells #[.int .u32 pc, .slice sa sn sc] 45 (0, 0)) ∧ Gr w wr) (fun i _ _ => sn - (intOf i).toNat)
  case atStart => exact ⟨0, none, 0, Nat.zero_le _, rfl, rfl, World.ownsRow_nil _ _ _ _, HB1.out, HG1.out⟩
  case round =>
    obtain ⟨k, a, c0, hk, rfl, rfl, O, B, G⟩ := hrel
    have HO : Hid (wr.ownsRow (w.heap.size + 1) 166 5 (.slice a (codeV pc (is.take k) 0).length c0) (codeV pc (is.take k) 0).length (mvC (codeV pc (is.take k) 0))) := O
    have HB : Hid (wr.heap[w.heap.size]? = some (.cells #[.int .u32 pc, .slice sa sn sc] 45 (0, 0))) := B
    have HG : Hid (Gr w wr) := G
    have hlt0 : w.heap.size < wr.heap.size := (Array.getElem?_eq_some_iff.1 B).1
    have hlen := HF.out k
    clear O B G HB1 HG1 q1
    by_cases hlt : k < sn
    · obtain ⟨c, hc⟩ : ∃ c, is[k]? = some c := ⟨_, List.getElem?_eq_getElem (by rw [HL.out]; exact hlt)⟩
      obtain ⟨b, o, rfl, hb, hcell⟩ := (HI.out wr HG.out).spot (by omega)
      obtain ⟨p0, p1, p2, p3, p4⟩ := hcell k c hc
      have HM1 : Hid _ := HM.out k c hc
      have hm3 := HFm.out k c hc
      have HCk : Hid _ := HC.out k c hc
      clear hcell hc HM HFm HC HF
      generalize codeV pc (is.take k) 0 = cv at *
      generalize mdV (at4 pc k) c = md at *
      obtain ⟨op, rd, r1, r2, im⟩ := c
      simp only at *
      have HM2 : Hid (∀ W : World, Gr w W → Calls Tryz.prog 96 #[.agg #[.int .i64 op, .int .i64 rd, .int .i64 r1, .int .i64 r2, .int .i32 im], .int .u32 ((pc + 4 * (k : Int)) % 4294967296)] W fun e w' => ∃ v, e = .returned v ∧ Sr w' v md.length 5 (mvC md) ∧ Gr W w') := HM1
      have HCk2 : Hid (codeV pc (is.take (k + 1)) 0 = cv ++ (⟨1, 0, 0, 0, at4 pc k⟩ :: md)) := HCk
      have q0 : wr.cell? ⟨w.heap.size, 0, none⟩ = some (.int .u32 pc) := cell_of_row _ _ _ _ _ _ HB.out
      clear HM1 HCk
      have HL1 : Hid ((codeV pc (is.take (k + 1)) 0).length = cv.length + 1 + md.length) := by rw [Hid, HCk2.out]; simp; omega
      have HV1 : Hid (mvC (codeV pc (is.take (k + 1)) 0) = (mvC cv ++ [.int .i64 1, .int .i64 0, .int .i64 0, .int .i64 0, .int .u32 ((pc + 4 * (k : Int)) % 4294967296)]) ++ mvC md) := by rw [Hid, HCk2.out, mvC_app]; simp [mvC, mvC1, at4, Wd.lo]
      clear HCk2 hk
      have HK : Hid (k < sn) := hlt
      generalize hcn : cv.length = cn at *
      clear hcn
      go_wp2_with (at_builtin; refine wpList_append_sr rfl (.tmp 24) (.tmp 27) rfl Tryz.underlying117 hi hz0 hz1 hz2 rfl (by decide) (base := w.heap.size + 1) (n := cn) (m := 1) (v := .slice a cn c0) (vx := .slice (some ⟨wr.heap.size + 1, 0, none⟩) 1 1) (olds := mvC cv) (news := [.int .i64 1, .int .i64 0, .int .i64 0, .int .i64 0, .int .u32 ((pc + 4 * (k : Int)) % 4294967296)]) rfl rfl (owns_gr HO.out (by repeat (first | exact Gr.refl wr | refine Gr.alloc ?_ _))) (Sr.at_ (by simp) #[.int .i64 1, .int .i64 0, .int .i64 0, .int .i64 0, .int .u32 ((pc + 4 * (k : Int)) % 4294967296)] 166 1 1 rfl) (mic_oneL _ _ _ _ _) (by unfold maxLen; omega) (by omega) (by simp; omega) ?_; intro v' w2 hown hgrow; obtain ⟨a', c', rfl⟩ := shape_own hown; have HO2 : Hid (w2.ownsRow (w.heap.size + 1) 166 5 (.slice a' (cn + 1) c') (cn + 1) (mvC cv ++ [.int .i64 1, .int .i64 0, .int .i64 0, .int .i64 0, .int .u32 ((pc + 4 * (k : Int)) % 4294967296)])) := hown; have HG2 : Hid (Gr w w2) := Gr.grown (HG.out.trans (by repeat (first | exact Gr.refl wr | refine Gr.alloc ?_ _))) hgrow (fun b e => by have := (HO.out.lt b e).1; omega); have HB2 : Hid (w2.heap[w.heap.size]? = some (.cells #[.int .u32 pc, .slice (some ⟨b, o, none⟩) sn sc] 45 (0, 0))) := grow_hold (owns_gr HO.out (by repeat (first | exact Gr.refl wr | refine Gr.alloc ?_ _))) hgrow (by decide) (heap_gr (by repeat (first | exact Gr.refl wr | refine Gr.alloc ?_ _)) HB.out); have HJ2 : Hid (w2.heap[wr.heap.size]? = some (.cells #[.int .i64 op, .int .i64 rd, .int .i64 r1, .int .i64 r2, .int .i32 im] 77 (0, 0))) := grow_hold (owns_gr HO.out (by repeat (first | exact Gr.refl wr | refine Gr.alloc ?_ _))) hgrow (by decide) (heap_alloc2_old wr _ _); have r0 : w2.cell? ⟨wr.heap.size, 0, none⟩ = some (.int .i64 op) := cell_of_row _ _ _ _ _ _ HJ2.out; have r1' : w2.cell? ⟨wr.heap.size, 1, none⟩ = some (.int .i64 rd) := cell_of_row _ _ _ _ _ _ HJ2.out; have r2' : w2.cell? ⟨wr.heap.size, 2, none⟩ = some (.int .i64 r1) := cell_of_row _ _ _ _ _ _ HJ2.out; have r3' : w2.cell? ⟨wr.heap.size, 3, none⟩ = some (.int .i64 r2) := cell_of_row _ _ _ _ _ _ HJ2.out; have r4' : w2.cell? ⟨wr.heap.size, 4, none⟩ = some (.int .i32 im) := cell_of_row _ _ _ _ _ _ HJ2.out; clear hown hgrow)
      refine (HM2.out _ HG2.out).mono ?_
      rintro e w3 ⟨v, rfl, S3, G3⟩
      have HS3 : Hid (Sr w3 v md.length 5 (mvC md)) := S3
      have HG3 : Hid (Gr w2 w3) := G3
      have hb3 : w.heap.size + 1 ≤ w3.heap.size := by have := (Array.getElem?_eq_some_iff.1 HB2.out).1; have := G3.size; omega
      clear S3 G3 r0 r1' r2' r3' r4' HJ2 HM2 HO HB p0 p1 p2 p3 p4 q0
      generalize md.length = mn at *
      go_wp2_with (at_builtin; refine wpList_append_sr rfl (.tmp 29) (.tmp 32) rfl Tryz.underlying117 hi hz0 hz1 hz2 rfl (by decide) (base := w.heap.size + 1) (n := cn + 1) (m := mn) (v := .slice a' (cn + 1) c') (vx := v) (olds := mvC cv ++ [.int .i64 1, .int .i64 0, .int .i64 0, .int .i64 0, .int .u32 ((pc + 4 * (k : Int)) % 4294967296)]) (news := mvC md) rfl rfl (owns_gr HO2.out HG3.out) HS3.out (mvC_one _) (by unfold maxLen; omega) (by omega) hb3 ?_; intro v'' w4 hown hgrow; obtain ⟨a'', c'', rfl⟩ := shape_own hown; have HO4 : Hid (w4.ownsRow (w.heap.size + 1) 166 5 (.slice a'' (cn + 1 + mn) c'') (cn + 1 + mn) ((mvC cv ++ [.int .i64 1, .int .i64 0, .int .i64 0, .int .i64 0, .int .u32 ((pc + 4 * (k : Int)) % 4294967296)]) ++ mvC md)) := hown; have HG4 : Hid (Gr w w4) := Gr.grown (HG2.out.trans HG3.out) hgrow (fun b e => by have := (HO2.out.lt b e).1; omega); have HB4 : Hid (w4.heap[w.heap.size]? = some (.cells #[.int .u32 pc, .slice (some ⟨b, o, none⟩) sn sc] 45 (0, 0))) := grow_hold (owns_gr HO2.out HG3.out) hgrow (by decide) (heap_gr HG3.out HB2.out); clear hown hgrow)
      go_roundw
      case rel => exact ⟨k + 1, a'', c'', by have := HK.out; omega, by go_num, by rw [HL1.out], by rw [HL1.out, HV1.out]; exact HO4.out, HB4.out, HG4.out⟩
      case measure => simp [intOf]; have := HK.out; omega
    · have ek : k = sn := by omega
      subst ek
      have HOE : Hid (wr.ownsRow (w.heap.size + 1) 166 5 (.slice a (codeV pc is 0).length c0) (codeV pc is 0).length (mvC (codeV pc is 0))) := by have := HO.out; rwa [HZ.out] at this
      have HZ2 : Hid ((codeV pc (is.take k) 0).length = (codeV pc is 0).length) := by rw [Hid, HZ.out]
      clear HO HF HFm HM HC HI
      generalize (codeV pc (is.take k) 0).length = cn at *
      go_wp2_with fail
      go_ret
      have e := HZ2.out
      subst e
      obtain ⟨ca, cc, hv, C⟩ := ct_own HOE.out (fun i hi => (HE.out i hi).2.1) (fun i hi => by have := (HE.out i hi).2.2; omega)
      injection hv with hv1 _ hv2
      subst hv1 hv2
      exact ⟨_, _, _, rfl, C, HG.out⟩
end Go.Proofs.YtchllaeembmioaaGreatDoor.Ts
namespace Go.Proofs.YtchllaeembmioaaGreatDoor.Re
open Go.ChangeShapes Go.WideShapes Go.ChangeAt Go.RowKit Dw

end Go.Proofs.YtchllaeembmioaaGreatDoor.Re
namespace Go.Proofs.YtchllaeembmioaaGreatDoor.Re
open Go.ChangeShapes Go.WideShapes Go.ChangeAt Go.RowKit Dw

end Go.Proofs.YtchllaeembmioaaGreatDoor.Re
namespace Go.Proofs.YtchllaeembmioaaGreatDoor.Re
open Go.ChangeShapes Go.WideShapes Go.ChangeAt Go.RowKit Dw

end Go.Proofs.YtchllaeembmioaaGreatDoor.Re
namespace Go.Proofs.YtchllaeembmioaaGreatDoor.Re
open Go.ChangeShapes Go.WideShapes Go.ChangeAt Go.RowKit Dw

def IsP (op rd rs1 rs2 n : Int) : Prop := (1 ≤ op ∧ op ≤ 59 ∧ 0 ≤ rd ∧ rd ≤ 31 ∧ 0 ≤ rs1 ∧ rs1 ≤ 31 ∧ 0 ≤ rs2 ∧ rs2 ≤ 31) ∧
  ((1 ≤ op ∧ op ≤ 2 ∧ rs1 = 0 ∧ rs2 = 0 ∧ n.tmod 4096 = 0) ∨ (3 ≤ op ∧ op ≤ 3 ∧ rs1 = 0 ∧ rs2 = 0 ∧ -1048576 ≤ n ∧ n ≤ 1048574 ∧ n.tmod 2 = 0) ∨ (4 ≤ op ∧ op ≤ 4 ∧ rs2 = 0 ∧ -2048 ≤ n ∧ n ≤ 2047) ∨ (5 ≤ op ∧ op ≤ 10 ∧ rd = 0 ∧ -4096 ≤ n ∧ n ≤ 4094 ∧ n.tmod 2 = 0) ∨ (11 ≤ op ∧ op ≤ 15 ∧ rs2 = 0 ∧ -2048 ≤ n ∧ n ≤ 2047) ∨ (16 ≤ op ∧ op ≤ 18 ∧ rd = 0 ∧ -2048 ≤ n ∧ n ≤ 2047) ∨ (19 ≤ op ∧ op ≤ 24 ∧ rs2 = 0 ∧ -2048 ≤ n ∧ n ≤ 2047) ∨ (25 ≤ op ∧ op ≤ 27 ∧ rs2 = 0 ∧ 0 ≤ n ∧ n ≤ 31) ∨ (28 ≤ op ∧ op ≤ 45 ∧ n = 0) ∨ (46 ≤ op ∧ op ≤ 56 ∧ 0 ≤ n ∧ n ≤ 3 ∧ (op ≠ 46 ∨ rs2 = 0)) ∨ (57 ≤ op ∧ op ≤ 57 ∧ rs2 = 0 ∧ -2048 ≤ n ∧ n ≤ 2047) ∨ (58 ≤ op ∧ op ≤ 59 ∧ rd = 0 ∧ rs1 = 0 ∧ rs2 = 0 ∧ n = 0))
end Go.Proofs.YtchllaeembmioaaGreatDoor.Re
namespace Go.Proofs.YtchllaeembmioaaGreatDoor.Dw
open Re

theorem tmod_zero (n k : Int) : n.tmod k = 0 ↔ n % k = 0 := by
  rw [← Int.dvd_iff_tmod_eq_zero, ← Int.dvd_iff_emod_eq_zero]
abbrev TB (k : Int) : Prop := Dc.tbits k = Dc.tbits k % 128 + Dc.tbits k / 4096 % 8 * 4096 + Dc.tbits k / 33554432 * 33554432 ∧ 0 ≤ Dc.tbits k ∧ Dc.tbits k < 4294967296 ∧
  (Dc.frm k = 8 → Dc.tbits k / 33554432 % 4 = 0) ∧ (Dc.frm k = 1 ∨ Dc.frm k = 2 ∨ Dc.frm k = 3 ∨ Dc.frm k = 5 ∨ Dc.frm k = 6 → Dc.tbits k / 33554432 = 0) ∧ (Dc.frm k = 1 ∨ Dc.frm k = 2 → Dc.tbits k / 4096 % 8 = 0)
theorem tb_all : ∀ n : Fin 58, 1 ≤ n.val → TB (n.val : Int) := by decide +kernel
theorem tb {k : Int} (h1 : 1 ≤ k) (h2 : k ≤ 57) : TB k := by
  have := tb_all ⟨k.toNat, by omega⟩ (by simp; omega)
  rwa [show ((⟨k.toNat, by omega⟩ : Fin 58).val : Int) = k by simp; omega] at this
theorem canon {v l a m b c u : Int} (hv : v = l + a * 128 + m * 4096 + b * 32768 + c * 1048576 + u * 33554432) (l0 : 0 ≤ l) (l1 : l < 128) (a0 : 0 ≤ a) (a1 : a < 32) (m0 : 0 ≤ m) (m1 : m < 8)
    (b0 : 0 ≤ b) (b1 : b < 32) (c0 : 0 ≤ c) (c1 : c < 32) : v % 128 = l ∧ v / 128 % 32 = a ∧ v / 4096 % 8 = m ∧ v / 32768 % 32 = b ∧ v / 1048576 % 32 = c ∧ v / 33554432 = u ∧ v / 1048576 = c + u * 32 ∧ v / 4096 = m + b * 8 + c * 256 + u * 8192 ∧ v / 128 = a + (m + b * 8 + c * 256 + u * 8192) * 32 ∧ v / 32768 = b + c * 32 + u * 1024 := by
  have e5 : v / 33554432 = u := by omega
  have e4 : v / 1048576 = c + u * 32 := by omega
  have e3 : v / 32768 = b + c * 32 + u * 1024 := by omega
  have e2 : v / 4096 = m + b * 8 + c * 256 + u * 8192 := by omega
  have e1 : v / 128 = a + (m + b * 8 + c * 256 + u * 8192) * 32 := by omega
  refine ⟨by omega, by rw [e1]; omega, by rw [e2]; omega, by rw [e3]; omega, by rw [e4]; omega, e5, e4, e2, e1, e3⟩
theorem regs_sum {T rd rs1 rs2 l m u : Int} (hT : T = l + m * 4096 + u * 33554432) (l0 : 0 ≤ l) (l1 : l < 128) (m0 : 0 ≤ m) (m1 : m < 8) (u0 : 0 ≤ u) (u1 : u < 128) (a1 : 0 ≤ rd) (a2 : rd ≤ 31) (b1 : 0 ≤ rs1) (b2 : rs1 ≤ 31) (c1 : 0 ≤ rs2) (c2 : rs2 ≤ 31) :
    bits .or .u32 T (bits .or .u32 (bits .or .u32 (rd % 4294967296 * 128 % 4294967296) (rs1 % 4294967296 * 32768 % 4294967296)) (rs2 % 4294967296 * 1048576 % 4294967296)) = l + rd * 128 + m * 4096 + rs1 * 32768 + rs2 * 1048576 + u * 33554432 := by
  rw [show rd % 4294967296 * 128 % 4294967296 = rd * 2 ^ 7 by omega, show rs1 % 4294967296 * 32768 % 4294967296 = rs1 * 2 ^ 15 by omega, show rs2 % 4294967296 * 1048576 % 4294967296 = rs2 * 2 ^ 20 by omega]
  have s1 : Wd.bor (rd * 2 ^ 7) (rs1 * 2 ^ 15) = rd * 2 ^ 7 + rs1 * 2 ^ 15 := ins_bor _ _ 15 5 (by omega) b1 (by omega) (by omega)
  have s2 : Wd.bor (rd * 2 ^ 7 + rs1 * 2 ^ 15) (rs2 * 2 ^ 20) = rd * 2 ^ 7 + rs1 * 2 ^ 15 + rs2 * 2 ^ 20 := ins_bor _ _ 20 5 (by omega) c1 (by omega) (by omega)
  rw [bits_or_u32 (rd * 2 ^ 7) (rs1 * 2 ^ 15) (by omega) (by omega) (by omega) (by omega), s1, bits_or_u32 _ (rs2 * 2 ^ 20) (by omega) (by omega) (by omega) (by omega), s2,
    bits_or_u32 T _ (by omega) (by omega) (by omega) (by omega), ← s2, ← s1, ← bor_assoc, ← bor_assoc]
  have z1 : T / 2 ^ 7 = m * 32 + u * 262144 := by omega
  rw [ins_bor T rd 7 5 (by omega) a1 (by rw [z1]; omega) (by omega)]
  have z2 : (T + rd * 2 ^ 7) / 2 ^ 15 = u * 1024 := by omega
  rw [ins_bor _ rs1 15 5 (by omega) b1 (by rw [z2]; omega) (by omega)]
  have z3 : (T + rd * 2 ^ 7 + rs1 * 2 ^ 15) / 2 ^ 20 = u * 32 := by omega
  rw [ins_bor _ rs2 20 5 (by omega) c1 (by rw [z3]; omega) (by omega)]
  omega
theorem same_mk {op rd rs1 rs2 imm v f : Int} (h0 : 0 ≤ v) (h1 : v < 4294967296) (o1 : 1 ≤ op) (o2 : op ≤ 59) (hf : Dc.frm op = f) (ht : Dc.part f v = Dc.tbits op) (hl : op = 46 → v / 1048576 % 32 = 0)
    (e1 : Dc.rdF f v = rd) (e2 : Dc.rs1F f v = rs1) (e3 : Dc.rs2F f v = rs2) (e4 : Dc.immF f v = imm) : Same op rd rs1 rs2 imm v := by
  have hr : Dc.raw v = op := Dc.told_raw h0 h1 o1 o2 (by rw [hf]; exact ht)
  have hd : Dc.dop v = op := by unfold Dc.dop; rw [hr, if_neg (by omega)]
  refine ⟨by unfold decOk; rw [hd]; simp; omega, hd, by rw [hd, hf]; exact e1, by rw [hd, hf]; exact e2, by rw [hd, hf]; exact e3, by rw [hd, hf]; exact e4⟩
end Go.Proofs.YtchllaeembmioaaGreatDoor.Dw
