/-
  Uw, Mk, UaW, Ma: texts of ours that lie in one file.
-/
import Derived.Test.YtdiofidmlgliiaaDoorK08
import Derived.Test.YtdiofidmlgliiaaDoorK01
import Derived.ProofKit
import Derived.SizedLaws
import Derived.Deep.Slices
/-
  What package undo's Run answers: what is wrong; else what is shown, and an Undo of each step.
-/
namespace Go.Proofs.YtdiofidmlgliiaaDoor.Ud
open Go.ChangeShapes Go.WideShapes Go.ChangeAt Go.RowKit Mm Hh Hc Mc
set_option linter.unusedVariables false
set_option linter.unusedSimpArgs false

theorem results_ctt {P : Program} {fn : Func} {p t u : Tmp} {ty : TypeId} (h : fn.results = #[.cell p ty, .tmp t, .tmp u]) (tmps : Array Value) (w : World) (g : Nat) (tt : TypeId) (cs : Array Value) (fr : Nat × Nat) (d : TypeDesc)
    (v v2 : Value) (hp : tmps.getD p undef = .pointer (some ⟨g, 0, none⟩)) (hv : tmps.getD t undef = v) (hv2 : tmps.getD u undef = v2) (hg : w.heap[g]? = some (.cells cs tt fr))
    (hu : P.underlying ty = some d) (hd : (match d with | .struct _ | .array _ _ => true | _ => false) = true) (hi : (P.info? ty).map (·.size) = some cs.size) :
    (results fn tmps).run P w = .ok (.tuple #[.agg cs, v, v2]) w := by
  subst hv hv2
  have hp' : tmps[p]?.getD undef = .pointer (some ⟨g, 0, none⟩) := by simpa using hp
  simp [results, h, hp', asAddr, run_loadVar_row w g tt ty cs fr d hg hu hd hi]
theorem uns_play (s : Sh) (a : List (Nat × Nat)) (k n : Nat) : uns s (trP s (a ++ [(k, n)])) = uns s (trP s a) ++ uns (play s a) (trR (play s a) k n) := by
  rw [trP_app, uns_app, ← play_dos]
  congr 2
  show trR (play s a) k n ++ [] = _
  rw [List.append_nil]
theorem uns_steps (s : Sh) (a : List (Nat × Nat)) : s.steps + (uns s (trP s a)).length = (play s a).steps := by rw [uns_len, play_dos, dos_steps]
theorem iRc : (Tryd.prog.info? 76).map (·.size) = some 5 := by kernel_rfl
set_option maxHeartbeats 4000000 in
set_option maxRecDepth 100000 in
/-- Something is wrong: a machine, a script. -/
theorem URun_no {ma ha pa : Option Addr} {hn pn : Nat} (mc hc pc : Nat) {m : List UInt8} {hs : List Hv} {ps : List (Int × Int)} {w : World} (mn : Nat) (hmn : m.length = mn) (H : Hs w ha hn hs) (P : Ps w pa pn ps) (b1 : mn ≤ 140737488351232) (b2 : hn ≤ 140737488351232) (b3 : pn ≤ 140737488351232) (hno : ¬ wrong m hs ps = 0) :
    Calls Tryd.prog 12 #[.agg #[.slice ma mn mc, .slice ha hn hc], .slice pa pn pc] w fun e w' => e = .returned (.tuple #[.agg #[.slice none 0 0, .slice none 0 0, .slice none 0 0, .int .i64 0], .slice none 0 0, .int .i64 (wrong m hs ps)]) ∧ Gr w w' := by
  have HM : Hid (∀ W : World, Gr w W → Calls Tryd.prog 28 #[.agg #[.slice ma mn mc, .slice ha hn hc], .slice pa pn pc] W fun e w' => e = .returned (.tuple #[.agg #[.slice none 0 0, .slice none 0 0, .slice none 0 0, .int .i64 0], .int .i64 (wrong m hs ps)]) ∧ Gr W w') := fun W G => NewBoard_no mc hc pc mn hmn (H.of G) (P.of G) b1 b2 b3 hno
  clear H P hmn
  generalize wrong m hs ps = E at *
  have hE : (E != 0) = true := by simpa using hno
  clear hno
  go_enter Tryd.func12, Tryd.ntmps12
  go_wp2_with fail
  refine (HM.out _ (((Gr.refl _).alloc _).alloc _)).mono ?_
  rintro e w1 ⟨rfl, G1⟩
  have HG1 : Hid (Gr w w1) := (((Gr.refl _).alloc _).alloc _).trans G1
  have HB : Hid (w1.heap[w.heap.size + 1]? = some (.cells #[.slice none 0 0, .slice none 0 0, .slice none 0 0, .int .i64 0] 40 (0, 0))) := (two_of G1).2
  have hlt : w.heap.size + 1 < w1.heap.size := (gs HB.out).1
  clear G1 HM
  have HI : Hid ((Tryd.prog.info? 40).map (·.size) = some 4) := iS
  have HB2 : Hid (∀ Y : Array Value, (w1.alloc (.cells Y 72)).heap[w.heap.size + 1]? = some (.cells #[.slice none 0 0, .slice none 0 0, .slice none 0 0, .int .i64 0] 40 (0, 0))) := fun Y => Hr.heap_of_gr ((Gr.refl _).alloc _) HB.out
  go_wp2_with (refine wpList_store_row rfl 40 _ _ rfl (w.heap.size + 1) #[.slice none 0 0, .slice none 0 0, .slice none 0 0, .int .i64 0] rfl rfl 40 _ ?hb HI.out rfl (by kernel_rfl) ?_; (case hb => exact HB2.out _))
  refine bodyPost_ret (v := .tuple #[.agg _, .slice none 0 0, .int .i64 E]) (results_ctt Tryd.results12 _ _ _ _ _ (0, 0) _ _ _ rfl rfl rfl (setRow_heap _ _ _ _ _ (0, 0) (HB2.out _)) Tryd.underlying40 rfl HI.out) rfl ⟨rfl, ?_⟩
  exact gr_setRow (HG1.out.alloc _) (Nat.le_succ _) _
set_option maxHeartbeats 4000000 in
set_option maxRecDepth 100000 in
theorem URun_yes {ma ha pa : Option Addr} {hn pn : Nat} (mc hc pc : Nat) {m : List UInt8} {hs : List Hv} {ps : List (Int × Int)} {w : World} (mn : Nat) (T : TT w w.heap.size) (M : Mem w ma mn m) (hcap : ma = none → mc = 0) (H : Hs w ha hn hs) (P : Ps w pa pn ps) (hy : wrong m hs ps = 0) :
    Calls Tryd.prog 12 #[.agg #[.slice ma mn mc, .slice ha hn hc], .slice pa pn pc] w fun e w' => ∃ v ua un uc, e = .returned (.tuple #[v, .slice ua un uc, .int .i64 0]) ∧ Shn w' v hn mn (play ⟨hs, m, [], 0⟩ (nums ps)) ∧ Us w' ua un (uns ⟨hs, m, [], 0⟩ (trP ⟨hs, m, [], 0⟩ (nums ps))) ∧ un ≤ uc ∧ Gr w w' := by
  obtain ⟨b1, b2, b4, hmay, b3, hpk⟩ := wrong_ok hy
  have hml := M.len
  have hhl := H.len
  have hpl := P.len
  have HN : Hid (∀ W : World, Gr w W → Calls Tryd.prog 28 #[.agg #[.slice ma mn mc, .slice ha hn hc], .slice pa pn pc] W fun e w' => ∃ a c gh hc, e = .returned (.tuple #[.agg #[.slice a mn c, .slice (some ⟨gh, 0, none⟩) hn hc, .slice none 0 0, .int .i64 0], .int .i64 0]) ∧ Hc.Own w' 0 (.slice a mn c) m ∧ W.heap.size ≤ gh ∧ HRow w' gh hs ∧ Gr W w') := fun W G => NewBoard_yes mc hc pc mn (M.of G) hcap (H.of G) (P.of G) (by omega) hy (by omega) (by omega) (by omega)
  have F0 : Fit ⟨hs, m, [], 0⟩ hn mn := ⟨hhl, hml, fun h hm => ⟨H.ok h hm, hmay h hm⟩⟩
  have HF0 : Hid (Fit ⟨hs, m, [], 0⟩ hn mn) := F0
  have HT : Hid (TT w w.heap.size) := T
  have HP : Hid (Ps w pa pn ps) := P
  have HPL : Hid (ps.length = pn) := hpl
  have HPK : Hid (∀ p ∈ ps, 0 ≤ p.1 ∧ p.1 < hn ∧ 0 ≤ p.2 ∧ p.2 ≤ 400) := by rw [hhl] at hpk; exact hpk
  have HHL : Hid (hs.length = hn) := hhl
  have HLV : Hid (Live ⟨hs, m, [], 0⟩ (trP ⟨hs, m, [], 0⟩ (nums ps))) := trP_live _ _ (fun q hq => by
    obtain ⟨r, hr, rfl⟩ := List.mem_map.1 hq
    have := hpk r hr
    show r.1.toNat < hs.length
    omega)
  have c4 : hn ≤ 4 := by omega
  have m4 : mn ≤ 4096 := by omega
  have p4 : pn ≤ 300 := by omega
  have HFt : Hid (∀ j, Fit (play ⟨hs, m, [], 0⟩ ((nums ps).take j)) hn mn) := fun j => play_fit _ (fun q hq => by
    obtain ⟨r, hr, rfl⟩ := List.mem_map.1 (List.mem_of_mem_take hq)
    have := HPK.out r hr
    show r.1.toNat < hn
    omega) F0
  clear M H P hy hcap T F0 hmay hpk hml hhl hpl b1 b2 b4 b3
  go_enter Tryd.func12, Tryd.ntmps12
  go_wp2_with fail
  refine (HN.out _ (((Gr.refl _).alloc _).alloc _)).mono ?_
  rintro e w1 ⟨a1, c1, gh, hc1, rfl, O1, hgh, R1, G1⟩
  have HG1 : Hid (Gr w w1) := (((Gr.refl _).alloc _).alloc _).trans G1
  have HS1 : Hid (w1.heap[w.heap.size + 1]? = some (.cells #[.slice none 0 0, .slice none 0 0, .slice none 0 0, .int .i64 0] 40 (0, 0))) := (two_of G1).2
  have hlt : w.heap.size + 1 < w1.heap.size := (gs HS1.out).1
  have hgh2 : w.heap.size + 2 ≤ gh := by simpa using hgh
  have HO1 : Hid (Hc.Own w1 0 (.slice a1 mn c1) m) := O1
  have HR1 : Hid (HRow w1 gh hs) := R1
  clear O1 R1 G1 hgh HN
  go_wp2_with fail
  refine atW (fun W => Rw W (w.heap.size + 2) (w1.heap.size + 1) (.slice a1 mn c1) gh hc1 (.slice none 0 0) (.slice none 0 0) [] ⟨hs, m, [], 0⟩ [] ∧ W.heap[w.heap.size + 1]? = some (.cells #[.slice none 0 0, .slice none 0 0, .slice none 0 0, .int .i64 0] 40 (0, 0)) ∧ Gr w W) ?_ ?_
  · have GA : ∀ o1 o2 : Obj, Gr w1 ((w1.alloc o1).alloc o2) := fun o1 o2 => ((Gr.refl _).alloc _).alloc _
    have e1 : ∀ o1 : Obj, (w1.alloc o1).heap.size = w1.heap.size + 1 := fun o1 => by simp
    have hblk := heap_alloc_new (w1.alloc (.cells #[.slice a1 mn c1, .slice (some ⟨gh, 0, none⟩) hn hc1, .slice none 0 0, .int .i64 0] 72)) (.cells #[.slice a1 mn c1, .slice (some ⟨gh, 0, none⟩) hn hc1, .slice none 0 0, .int .i64 0, .slice none 0 0] 76)
    rw [e1] at hblk
    refine ⟨⟨⟨by decide, by decide, by decide, by omega, ?_, own_gr HO1.out (GA _ _), hgh2, HR1.out.of (GA _ _), World.ownsRow_nil _ _ _ _⟩, World.ownsRow_nil _ _ _ _, Ux.nil _⟩, Hr.heap_of_gr (GA _ _) HS1.out, HG1.out.trans (GA _ _)⟩
    show _ = some (Obj.cells #[.slice a1 mn c1, .slice (some ⟨gh, 0, none⟩) hs.length hc1, .slice none 0 0, .int .i64 ((0 : Nat) : Int), .slice none 0 0] 76 (0, 0))
    rw [HHL.out]
    exact hblk
  obtain ⟨g, hg⟩ : ∃ g : Nat, g = w1.heap.size + 1 := ⟨_, rfl⟩
  rw [← hg]
  clear HO1 HR1 hgh2 HG1 HS1
  rintro W3 ⟨R3, u1, G3⟩
  have hwg : w.heap.size + 2 ≤ g := by omega
  clear hg hlt
  have HR3 : Hid (Rc W3 (w.heap.size + 2) g ⟨hs, m, [], 0⟩ []) := ⟨_, _, _, _, _, _, R3⟩
  have HU1 : Hid (W3.heap[w.heap.size + 1]? = some (.cells #[.slice none 0 0, .slice none 0 0, .slice none 0 0, .int .i64 0] 40 (0, 0))) := u1
  have HG3 : Hid (Gr w W3) := G3
  have hb3 : w.heap.size + 2 ≤ W3.heap.size := R3.bw.base_le
  have HT3 : Hid (TT W3 (w.heap.size + 2)) := tt_up (tt_below HT.out G3) (by omega)
  have HGx : Hid (∀ V : World, Below (w.heap.size + 2) W3 V → Gr w V ∧ V.heap[w.heap.size + 1]? = some (.cells #[.slice none 0 0, .slice none 0 0, .slice none 0 0, .int .i64 0] 40 (0, 0))) := fun V B => ⟨gr_trans2 HG3.out B (by omega), (B.block _ (by omega)).trans HU1.out⟩
  clear R3 u1 G3 HU1 HG3 HT
  go_loopw [26] (fun i wr => ∃ j : Nat, j ≤ pn ∧ i = .int .i64 j ∧ Rc wr (w.heap.size + 2) g (play ⟨hs, m, [], 0⟩ ((nums ps).take j)) (uns ⟨hs, m, [], 0⟩ (trP ⟨hs, m, [], 0⟩ ((nums ps).take j))) ∧ Few (play ⟨hs, m, [], 0⟩ ((nums ps).take j)) (400 * j) ∧ Below (w.heap.size + 2) W3 wr) (fun i _ => pn - (intOf i).toNat)
  case atStart => exact ⟨0, Nat.zero_le _, rfl, HR3.out, ⟨Nat.le_refl _, Nat.le_refl _⟩, Below.refl _ _⟩
  case round =>
    obtain ⟨j, hj, rfl, R4, fw, B4⟩ := hrel
    have HR4 : Hid (Rc wr (w.heap.size + 2) g (play ⟨hs, m, [], 0⟩ ((nums ps).take j)) (uns ⟨hs, m, [], 0⟩ (trP ⟨hs, m, [], 0⟩ ((nums ps).take j)))) := R4
    have HFW : Hid (Few (play ⟨hs, m, [], 0⟩ ((nums ps).take j)) (400 * j)) := fw
    have HB4 : Hid (Below (w.heap.size + 2) W3 wr) := B4
    have HG4 : Hid (Gr w wr) := (HGx.out _ B4).1
    have hb4 : w.heap.size + 2 ≤ wr.heap.size := Nat.le_trans hb3 B4.size
    clear R4 fw B4 HR3
    by_cases hlt : j < pn
    · obtain ⟨p, hp⟩ : ∃ p, ps[j]? = some p := ⟨_, List.getElem?_eq_getElem (by rw [HPL.out]; exact hlt)⟩
      obtain ⟨z0, z1, z2, z3⟩ := HPK.out p (List.mem_of_getElem? hp)
      obtain ⟨b', o', rfl, hb', hcell'⟩ := HP.out.spot (by omega)
      have q0 : wr.cell? ⟨b', o' + j * 2, none⟩ = some (.int .i64 p.1) := (HG4.out.cell _ (by exact hb')).trans (hcell' j p hp).1
      have q1 : wr.cell? ⟨b', o' + j * 2 + 1, none⟩ = some (.int .i64 p.2) := (HG4.out.cell _ (by exact hb')).trans (hcell' j p hp).2
      have HTK : Hid ((nums ps).take (j + 1) = (nums ps).take j ++ [(p.1.toNat, p.2.toNat)]) := nums_get hp
      clear hcell' hp
      obtain ⟨p1, p2⟩ := p
      simp only at *
      obtain ⟨k, rfl⟩ := Int.eq_ofNat_of_zero_le z0
      obtain ⟨n, rfl⟩ := Int.eq_ofNat_of_zero_le z2
      simp only [Int.toNat_natCast] at HTK
      have hk : k < hn := by omega
      have hn4 : n ≤ 400 := by omega
      have HTu : Hid (∀ V : World, Gr wr V → Calls Tryd.prog 29 #[.pointer (some ⟨g, 0, none⟩), .agg #[.int .i64 k, .int .i64 n]] V fun e w' => e = .returned (.tuple #[]) ∧ Rc w' (w.heap.size + 2) g (play ⟨hs, m, [], 0⟩ ((nums ps).take (j + 1))) (uns ⟨hs, m, [], 0⟩ (trP ⟨hs, m, [], 0⟩ ((nums ps).take (j + 1)))) ∧ Below (w.heap.size + 2) V w') := fun V G => by
        have f1 := HFW.out.1
        have f2 := HFW.out.2
        have f3 := uns_steps ⟨hs, m, [], 0⟩ ((nums ps).take j)
        simp only [Nat.zero_add] at f3
        have f4 : (uns ⟨hs, m, [], 0⟩ (trP ⟨hs, m, [], 0⟩ ((nums ps).take j))).length = (play ⟨hs, m, [], 0⟩ ((nums ps).take j)).steps := f3
        refine (turn_any (HR4.out.of G) (tt_below HT3.out (HB4.out.trans (Below.mono G hb4))) (HFt.out j) m4 hk c4 hn4 (by omega) (by omega) (by omega)).mono ?_
        rintro e w' ⟨rfl, R', F'⟩
        rw [HTK.out, uns_play, play_app]
        exact ⟨rfl, R', F'.below⟩
      have HFN : Hid (Few (play ⟨hs, m, [], 0⟩ ((nums ps).take (j + 1))) (400 * (j + 1))) := by
        unfold Hid
        rw [HTK.out, play_app, play_cons]
        show Few (runs _ k n) _
        rw [runs_wk (by rw [(HFt.out j).len]; exact hk) n, show 400 * (j + 1) = 400 * j + 400 by omega]
        have := wk_ok n (w0_ok (HFt.out j) hk)
        have e0 : (w0 (play ⟨hs, m, [], 0⟩ ((nums ps).take j)) k).n = 0 := rfl
        exact tk_few HFW.out this.1 (by omega)
      clear z0 z1 z2 z3 HR4 HFW HTK
      go_wp2_with fail
      refine (HTu.out _ ((Gr.refl _).alloc _)).mono ?_
      rintro e w5 ⟨rfl, R5, B5⟩
      have HR5 : Hid (Rc w5 (w.heap.size + 2) g (play ⟨hs, m, [], 0⟩ ((nums ps).take (j + 1))) (uns ⟨hs, m, [], 0⟩ (trP ⟨hs, m, [], 0⟩ ((nums ps).take (j + 1))))) := R5
      have HB5 : Hid (Below (w.heap.size + 2) W3 w5) := HB4.out.trans ((Below.mono ((Gr.refl wr).alloc _) hb4).trans B5)
      clear R5 B5 HTu q0 q1
      go_wp2_with fail
      go_roundw
      case rel => exact ⟨j + 1, by omega, by go_num, HR5.out, HFN.out, HB5.out⟩
      case measure => simp [intOf]; omega
    · have ej : ps.length ≤ j := by rw [HPL.out]; omega
      have HE : Hid ((nums ps).take j = nums ps) := by unfold Hid; rw [List.take_of_length_le (by unfold nums; rw [List.length_map]; exact ej)]
      have HFs : Hid (Fit (play ⟨hs, m, [], 0⟩ (nums ps)) hn mn) := by have := HFt.out j; rw [HE.out] at this; exact this
      obtain ⟨Mv, gh, hc1, Ov, Uv', xs, R5⟩ := HR4.out
      rw [HE.out] at R5
      have HUO : Hid (∀ u ∈ uns ⟨hs, m, [], 0⟩ (trP ⟨hs, m, [], 0⟩ (nums ps)), u.Ok ∧ (-9223372036854775808 ≤ u.k ∧ u.k ≤ 9223372036854775807) ∧ (∀ q ∈ u.lost, -9223372036854775808 ≤ q.1 ∧ q.1 ≤ 9223372036854775807) ∧ u.bs.length ≤ 4096 ∧ u.lost.length ≤ 4096) := fun u hu => by
        obtain ⟨f1, f2, f3, f4⟩ := uns_fit m4 _ _ HF0.out HLV.out u hu
        unfold fitU at f1
        simp only [Bool.and_eq_true, decide_eq_true_eq, List.all_eq_true] at f1
        obtain ⟨⟨a0, a1⟩, a2, a3, a4⟩ := f1
        exact ⟨f2, ⟨by omega, by omega⟩, fun q hq => by have := a4 q hq; omega, f3, by omega⟩
      clear ej HR4 HE HFt HP HPK HPL HFW HF0 HLV
      generalize hS : play ⟨hs, m, [], 0⟩ (nums ps) = s at *
      generalize hUU : uns ⟨hs, m, [], 0⟩ (trP ⟨hs, m, [], 0⟩ (nums ps)) = us at *
      have HSS : Hid (play ⟨hs, m, [], 0⟩ (nums ps) = s) := hS
      have HUU : Hid (uns ⟨hs, m, [], 0⟩ (trP ⟨hs, m, [], 0⟩ (nums ps)) = us) := hUU
      clear hS hUU
      obtain ⟨va, vc, rfl, -⟩ := R5.bw.mem.mem
      obtain ⟨oa, oc, rfl⟩ := (owns_cells R5.bw.out).2.2
      obtain ⟨ua, uc, rfl⟩ := (owns_cells R5.row).2.2
      have HR5 : Hid (Rw wr (w.heap.size + 2) g (.slice va s.m.length vc) gh hc1 (.slice oa s.out.length oc) (.slice ua us.length uc) xs s us) := R5
      have HMs : Hid (s.m.length = mn) := HFs.out.mem
      have HHs : Hid (s.hs.length = hn) := HFs.out.len
      have HUC : Hid (us.length ≤ uc) := by
        rcases R5.row.2 with ⟨e, e2⟩ | ⟨g', cp, cur, e, _, _, e3, _⟩
        · show us.length ≤ uc; rw [e2]; exact Nat.zero_le _
        · injection e with _ _ e; rw [← e] at e3; exact e3
      obtain ⟨ol, hol⟩ : ∃ ol : Nat, ol = s.out.length := ⟨_, rfl⟩
      obtain ⟨st, hst⟩ : ∃ st : Int, st = s.steps := ⟨_, rfl⟩
      obtain ⟨un, hun⟩ : ∃ un : Nat, un = us.length := ⟨_, rfl⟩
      have HOS : Hid (ol = s.out.length ∧ st = s.steps ∧ un = us.length) := ⟨hol, hst, hun⟩
      have HS : Hid ((fun W => W.cell? ⟨g, 0, none⟩ = some (.slice va mn vc) ∧ W.cell? ⟨g, 1, none⟩ = some (.slice (some ⟨gh, 0, none⟩) hn hc1) ∧ W.cell? ⟨g, 2, none⟩ = some (.slice oa ol oc) ∧ W.cell? ⟨g, 3, none⟩ = some (.int .i64 st) ∧ W.cell? ⟨g, 4, none⟩ = some (.slice ua un uc)) wr) := by
        have x0 := R5.bw.c0
        have x1 := R5.bw.c1
        have x2 := R5.bw.c2
        have x3 := R5.bw.c3
        have x4 := R5.bw.rest 0
        rw [HMs.out] at x0
        rw [HHs.out] at x1
        rw [← hol] at x2
        rw [← hst] at x3
        rw [← hun] at x4
        exact ⟨x0, x1, x2, x3, x4⟩
      obtain ⟨GW, U1⟩ := HGx.out _ HB4.out
      have HGW : Hid (Gr w wr) := GW
      have HU1 : Hid (wr.heap[w.heap.size + 1]? = some (.cells #[.slice none 0 0, .slice none 0 0, .slice none 0 0, .int .i64 0] 40 (0, 0))) := U1
      clear R5 hol hst hun GW U1
      have HS1 : Hid (∀ (V : World), (∀ i : Nat, V.cell? ⟨g, i, none⟩ = wr.cell? ⟨g, i, none⟩) → (fun W => W.cell? ⟨g, 0, none⟩ = some (.slice va mn vc) ∧ W.cell? ⟨g, 1, none⟩ = some (.slice (some ⟨gh, 0, none⟩) hn hc1) ∧ W.cell? ⟨g, 2, none⟩ = some (.slice oa ol oc) ∧ W.cell? ⟨g, 3, none⟩ = some (.int .i64 st) ∧ W.cell? ⟨g, 4, none⟩ = some (.slice ua un uc)) V) := fun V h => by
        obtain ⟨y0, y1, y2, y3, y4⟩ := HS.out
        exact ⟨(h 0).trans y0, (h 1).trans y1, (h 2).trans y2, (h 3).trans y3, (h 4).trans y4⟩
      go_wp2_with fail
      refine wp_region_held_drew (S := fun W => W.cell? ⟨g, 0, none⟩ = some (.slice va mn vc) ∧ W.cell? ⟨g, 1, none⟩ = some (.slice (some ⟨gh, 0, none⟩) hn hc1) ∧ W.cell? ⟨g, 2, none⟩ = some (.slice oa ol oc) ∧ W.cell? ⟨g, 3, none⟩ = some (.int .i64 st) ∧ W.cell? ⟨g, 4, none⟩ = some (.slice ua un uc)) (by kernel_rfl) ?_ (fun hHeld => ?_)
      · exact HS1.out _ (fun i => rfl)
      have HS0 : Hid _ := hHeld
      clear hHeld
      refine wpAnyH_take (i := 0) (v := .pointer (some ⟨g, 0, none⟩)) rfl (by kernel_rfl) (by kernel_rfl) (by kernel_rfl) (fun _ _ _ h => h) (Or.inl ⟨by rfl, fun W hW => by obtain ⟨y0, y1, y2, y3, y4⟩ := hW; go_simp⟩) HS0.out ?_
      simp only [List.getElem_toArray, List.getElem_cons_succ, List.getElem_cons_zero, Act.put, List.setIfInBounds_toArray, List.set_cons_zero, List.set_cons_succ]
      refine wpAnyH_take (i := 1) (v := .pointer (some ⟨g, 0, none⟩)) rfl (by kernel_rfl) (by kernel_rfl) (by kernel_rfl) (fun _ _ _ h => h) (Or.inl ⟨by rfl, fun W hW => by obtain ⟨y0, y1, y2, y3, y4⟩ := hW; go_simp⟩) HS0.out ?_
      simp only [List.getElem_toArray, List.getElem_cons_succ, List.getElem_cons_zero, Act.put, List.setIfInBounds_toArray, List.set_cons_zero, List.set_cons_succ]
      refine wpAnyH_take (i := 2) (v := .agg #[.slice va mn vc, .slice (some ⟨gh, 0, none⟩) hn hc1, .slice oa ol oc, .int .i64 st]) rfl (by kernel_rfl) (by kernel_rfl) (by kernel_rfl) (fun _ _ _ h => h) (Or.inl ⟨by rfl, fun W hW => by obtain ⟨y0, y1, y2, y3, y4⟩ := hW; go_simp⟩) HS0.out ?_
      simp only [List.getElem_toArray, List.getElem_cons_succ, List.getElem_cons_zero, Act.put, List.setIfInBounds_toArray, List.set_cons_zero, List.set_cons_succ]
      refine wpAnyH_take (i := 3) (v := .pointer (some ⟨g, 4, none⟩)) rfl (by kernel_rfl) (by kernel_rfl) (by kernel_rfl) (fun _ _ _ h => h) (Or.inl ⟨by rfl, fun W hW => by obtain ⟨y0, y1, y2, y3, y4⟩ := hW; go_simp⟩) HS0.out ?_
      simp only [List.getElem_toArray, List.getElem_cons_succ, List.getElem_cons_zero, Act.put, List.setIfInBounds_toArray, List.set_cons_zero, List.set_cons_succ]
      refine wpAnyH_take (i := 4) (v := .slice ua un uc) rfl (by kernel_rfl) (by kernel_rfl) (by kernel_rfl) (fun _ _ _ h => h) (Or.inl ⟨by rfl, fun W hW => by obtain ⟨y0, y1, y2, y3, y4⟩ := hW; go_simp⟩) HS0.out ?_
      simp only [List.getElem_toArray, List.getElem_cons_succ, List.getElem_cons_zero, Act.put, List.setIfInBounds_toArray, List.set_cons_zero, List.set_cons_succ]
      have HC1 : Hid (∀ i : Nat, (wr.drew.setRow (w.heap.size + 1) #[.slice va mn vc, .slice (some ⟨gh, 0, none⟩) hn hc1, .slice oa ol oc, .int .i64 st]).cell? ⟨g, i, none⟩ = wr.cell? ⟨g, i, none⟩) := fun i => World.cell?_of_block (setRow_other _ _ _ _ (by show g ≠ w.heap.size + 1; omega))
      refine wpAnyH_ready (rs := [5]) (by kernel_rfl) (by simp) ?_
      refine AllReadyH.cons rfl (fun K hK => ?_) AllReadyH.nil
      refine step_store rfl 40 (.tmp 4) (.tmp 35) rfl (w.heap.size + 1) #[.slice va mn vc, .slice (some ⟨gh, 0, none⟩) hn hc1, .slice oa ol oc, .int .i64 st] (by simp [Act.eval]) (by simp [Act.eval]) 40 #[.slice none 0 0, .slice none 0 0, .slice none 0 0, .int .i64 0] HU1.out iS rfl (one_bd _ _ _ _ _ _ _ _ _ _) ?_
      refine hK.out _ _ (HS1.out _ HC1.out) (fun hx => ?_)
      clear hK K hx
      simp only [List.getElem_toArray, List.getElem_cons_succ, List.getElem_cons_zero, Act.put, List.setIfInBounds_toArray, List.set_cons_zero, List.set_cons_succ]
      refine wpAnyH_take (i := 6) (v := .slice ua un uc) rfl (by kernel_rfl) (by kernel_rfl) (by kernel_rfl) (fun _ _ _ h => h) (Or.inl ⟨by rfl, fun W hW => by obtain ⟨y0, y1, y2, y3, y4⟩ := hW; go_simp⟩) (HS1.out _ HC1.out) ?_
      simp only [List.getElem_toArray, List.getElem_cons_succ, List.getElem_cons_zero, Act.put, List.setIfInBounds_toArray, List.set_cons_zero, List.set_cons_succ]
      refine wpAnyH_take (i := 7) (v := .int .i64 0) rfl (by kernel_rfl) (by kernel_rfl) (by kernel_rfl) (fun _ _ _ h => h) (Or.inl ⟨by rfl, fun W hW => by obtain ⟨y0, y1, y2, y3, y4⟩ := hW; go_simp⟩) (HS1.out _ HC1.out) ?_
      simp only [List.getElem_toArray, List.getElem_cons_succ, List.getElem_cons_zero, Act.put, List.setIfInBounds_toArray, List.set_cons_zero, List.set_cons_succ]
      refine wpAnyH_done (by kernel_rfl) ?_ _
      have ne : ∀ (t : Nat) (k : Nat) (q : Array Value) (f : Nat × Nat), t ≠ 40 → wr.heap[k]? = some (.cells q t f) → (wr.drew.setRow (w.heap.size + 1) #[.slice va mn vc, .slice (some ⟨gh, 0, none⟩) hn hc1, .slice oa ol oc, .int .i64 st]).heap[k]? = wr.heap[k]? := fun t k q f ht hk => setRow_other _ _ _ _ (ne_of_types hk HU1.out ht)
      have HFin : Hid (Shn (wr.drew.setRow (w.heap.size + 1) #[.slice va mn vc, .slice (some ⟨gh, 0, none⟩) hn hc1, .slice oa ol oc, .int .i64 st]) (.agg #[.slice va mn vc, .slice (some ⟨gh, 0, none⟩) hn hc1, .slice oa ol oc, .int .i64 st]) hn mn s ∧ Us (wr.drew.setRow (w.heap.size + 1) #[.slice va mn vc, .slice (some ⟨gh, 0, none⟩) hn hc1, .slice oa ol oc, .int .i64 st]) ua un us ∧ un ≤ uc ∧ Gr w (wr.drew.setRow (w.heap.size + 1) #[.slice va mn vc, .slice (some ⟨gh, 0, none⟩) hn hc1, .slice oa ol oc, .int .i64 st])) := by
        obtain ⟨e1, e2, e3⟩ := HOS.out
        have hM := HR5.out.bw.mem.to (w' := wr.drew.setRow (w.heap.size + 1) #[.slice va mn vc, .slice (some ⟨gh, 0, none⟩) hn hc1, .slice oa ol oc, .int .i64 st]) fun k o f hk => ne _ k o f (by decide) hk
        have hO := owns_to (w' := wr.drew.setRow (w.heap.size + 1) #[.slice va mn vc, .slice (some ⟨gh, 0, none⟩) hn hc1, .slice oa ol oc, .int .i64 st]) HR5.out.bw.out fun k o f hk => ne _ k o f (by decide) hk
        have hU := owns_to (w' := wr.drew.setRow (w.heap.size + 1) #[.slice va mn vc, .slice (some ⟨gh, 0, none⟩) hn hc1, .slice oa ol oc, .int .i64 st]) HR5.out.row fun k o f hk => ne _ k o f (by decide) hk
        have hX := HR5.out.ux.to (w' := wr.drew.setRow (w.heap.size + 1) #[.slice va mn vc, .slice (some ⟨gh, 0, none⟩) hn hc1, .slice oa ol oc, .int .i64 st]) fun k o t f ht hk => ne _ k o f (by rcases ht with rfl | rfl <;> decide) hk
        rw [HMs.out] at hM
        refine ⟨?_, ?_, by rw [e3]; exact HUC.out, gr_setRow (Gr.drew HGW.out) (Nat.le_succ _) _⟩
        · have := shn_own (base := w.heap.size + 2) (va := va) (vc := vc) (oa := oa) (oc := oc) (gh := gh) (hc := hc1) (c := hn) (mn := mn) (S := s) (w := wr.drew.setRow (w.heap.size + 1) #[.slice va mn vc, .slice (some ⟨gh, 0, none⟩) hn hc1, .slice oa ol oc, .int .i64 st]) hM HMs.out (HR5.out.bw.row.to fun k o f hk => ne _ k o f (by decide) hk) HHs.out hO
          rw [e1, e2] at this ⊢
          exact this
        · rw [e3]
          exact hX.us hU rfl HUO.out
      have HB9 : Hid ((wr.drew.setRow (w.heap.size + 1) #[.slice va mn vc, .slice (some ⟨gh, 0, none⟩) hn hc1, .slice oa ol oc, .int .i64 st]).heap[w.heap.size + 1]? = some (.cells #[.slice va mn vc, .slice (some ⟨gh, 0, none⟩) hn hc1, .slice oa ol oc, .int .i64 st] 40 (0, 0))) := srh HU1.out
      clear HR5 HS HS1 HS0 HC1 HU1 HOS ne
      generalize wr.drew.setRow (w.heap.size + 1) #[.slice va mn vc, .slice (some ⟨gh, 0, none⟩) hn hc1, .slice oa ol oc, .int .i64 st] = W9 at *
      go_wp2_with fail
      refine bodyPost_ret (v := .tuple #[.agg #[.slice va mn vc, .slice (some ⟨gh, 0, none⟩) hn hc1, .slice oa ol oc, .int .i64 st], .slice ua un uc, .int .i64 0]) (results_ctt Tryd.results12 _ _ _ _ _ (0, 0) _ _ _ rfl rfl rfl HB9.out Tryd.underlying40 rfl iS) rfl ⟨_, _, _, _, rfl, by rw [HSS.out]; exact HFin.out.1, by rw [HUU.out]; exact HFin.out.2.1, HFin.out.2.2.1, HFin.out.2.2.2⟩
end Go.Proofs.YtdiofidmlgliiaaDoor.Ud
/-
  Picks in rows; scripts cut in two, and one behind the other, as plain data.
-/
namespace Go.Proofs.YtdiofidmlgliiaaDoor.Mc
open Go.ChangeShapes Go.WideShapes Go.ChangeAt Go.RowKit Mm Hh Hc
set_option linter.unusedVariables false
set_option linter.unusedSimpArgs false

variable {w : World} {n k r : Nat} {ps : List (Int × Int)} {p : Int × Int} {m : List UInt8} {hs : List Hv}
def pC (ps : List (Int × Int)) : List Value := ps.flatMap fun p => [.int .i64 p.1, .int .i64 p.2]
theorem pC_app (a b : List (Int × Int)) : pC (a ++ b) = pC a ++ pC b := by simp [pC]
theorem pC_len (ps : List (Int × Int)) : (pC ps).length = ps.length * 2 := by
  induction ps with
  | nil => rfl
  | cons p r ih => simp only [pC, List.flatMap_cons, List.length_append, List.length_cons, List.length_nil] at ih ⊢; omega
theorem pC_one (ps : List (Int × Int)) : ∀ u ∈ pC ps, u.oneCell' = true := by
  intro u hu
  obtain ⟨p, _, hm⟩ := List.mem_flatMap.1 hu
  simp only [List.mem_cons, List.not_mem_nil, or_false] at hm
  rcases hm with rfl | rfl <;> rfl
theorem pC_get : ∀ (ps : List (Int × Int)) (i : Nat) (q : Int × Int), ps[i]? = some q → (pC ps)[i * 2]? = some (.int .i64 q.1) ∧ (pC ps)[i * 2 + 1]? = some (.int .i64 q.2)
  | [], i, q, h => by simp at h
  | p :: r, 0, q, h => by simp at h; subst h; exact ⟨rfl, rfl⟩
  | p :: r, i + 1, q, h => by
    have ih := pC_get r i q (by simpa using h)
    have e : pC (p :: r) = [.int .i64 p.1, .int .i64 p.2] ++ pC r := rfl
    rw [e, List.getElem?_append_right (by simp; omega), List.getElem?_append_right (by simp; omega)]
    simp only [List.length_cons, List.length_nil]
    rw [show (i + 1) * 2 - (0 + 1 + 1) = i * 2 by omega, show (i + 1) * 2 + 1 - (0 + 1 + 1) = i * 2 + 1 by omega]
    exact ih
/-- Picks that the program itself laid. -/
theorem Ps.own {base : Nat} {v : Value} (h : w.ownsRow base 56 2 v n (pC ps)) (hl : ps.length = n) : ∃ ao cap, v = .slice ao n cap ∧ Ps w ao n ps := by
  rcases h.2 with ⟨rfl, rfl⟩ | ⟨g, cap, cur, rfl, hb, hg, _⟩
  · exact ⟨none, 0, rfl, hl, fun h => absurd h (by omega)⟩
  · refine ⟨_, cap, rfl, hl, fun _ => ⟨g, 0, rfl, (gs hg).1, fun i p hp => ?_⟩⟩
    have hi : i < n := by rw [← hl]; exact (List.getElem?_eq_some_iff.1 hp).1
    have c := pC_get ps i p hp
    rw [Nat.zero_add]
    exact ⟨(h.cellAt _ (by omega)).trans c.1, (h.cellAt _ (by omega)).trans c.2⟩
/-- Some of a script's picks, from one on. -/
theorem Ps.src {b o : Nat} (h : Ps w (some ⟨b, o, none⟩) n ps) (i m c : Nat) (hi : i + m ≤ n) : Src w (.slice (some ⟨b, o + i * 2, none⟩) m c) m 2 (pC ((ps.drop i).take m)) := by
  have hl := h.len
  refine .inr ⟨_, c, rfl, by rw [pC_len, List.length_take, List.length_drop]; congr 1; omega, fun j u hj => ?_⟩
  have hjl : j < m * 2 := by have := (List.getElem?_eq_some_iff.1 hj).1; rw [pC_len, List.length_take, List.length_drop] at this; omega
  obtain ⟨b', o', e, _, hc⟩ := h.spot (by omega)
  obtain ⟨rfl, rfl⟩ : b = b' ∧ o = o' := by injection e with e; injection e with e1 e2; exact ⟨e1, e2⟩
  have hg : ((ps.drop i).take m)[j / 2]? = some (ps[i + j / 2]'(by omega)) := by
    rw [List.getElem?_take_of_lt (by omega), List.getElem?_drop, List.getElem?_eq_getElem]
  have c := pC_get _ _ _ hg
  have d := hc (i + j / 2) _ (List.getElem?_eq_getElem (by omega))
  rw [add_at]
  have h2 : j % 2 = 0 ∨ j % 2 = 1 := by omega
  rcases h2 with h2 | h2
  · rw [show j / 2 * 2 = j by omega] at c
    rw [c.1] at hj
    obtain rfl := Option.some.inj hj
    rw [show o + i * 2 + j = o + (i + j / 2) * 2 by omega]
    exact d.1
  · rw [show j / 2 * 2 + 1 = j by omega] at c
    rw [c.2] at hj
    obtain rfl := Option.some.inj hj
    rw [show o + i * 2 + j = o + (i + j / 2) * 2 + 1 by omega]
    exact d.2
theorem src_lit (w : World) (xs : List Value) (t m sz c : Nat) (h : xs.length = m * sz) : Src (w.alloc (.cells xs.toArray t)) (.slice (some ⟨w.heap.size, 0, none⟩) m c) m sz xs := by
  refine .inr ⟨_, c, rfl, h, fun j u hj => ?_⟩
  rw [add_at, Nat.zero_add, cell_of_row _ _ _ _ _ (0, 0) (heap_alloc_new w _)]
  simpa using hj
theorem infoP : (Tryd.prog.info? 56).map (fun i => (i.zero, i.size, i.bytes)) = some (some (.agg #[.int .i64 0, .int .i64 0]), 2, 16) := by kernel_rfl

/-- A pick cut in two. -/
def cut2 (ps : List (Int × Int)) (k : Nat) (h n r : Int) : List (Int × Int) := ps.take k ++ [(h, n), (h, r)] ++ ps.drop (k + 1)
theorem split_at (h : ps[k]? = some p) : ps = ps.take k ++ [p] ++ ps.drop (k + 1) := by
  rw [← take_snoc h, List.take_append_drop]
theorem cut2_play (h : ps[k]? = some p) (hs : p.2 = (n + r : Nat)) (s : Sh) : play s (nums (cut2 ps k p.1 n r)) = play s (nums ps) := by
  have e := congrArg nums (split_at h)
  rw [e]
  unfold cut2 nums
  simp only [List.map_append, List.map_cons, List.map_nil, play_app, play_cons]
  congr 1
  show runs (runs _ _ (Int.toNat n)) _ (Int.toNat r) = runs _ _ _
  rw [hs, Int.toNat_natCast, Int.toNat_natCast, Int.toNat_natCast, ← runs_add]
theorem cut2_len (hk : k < ps.length) (h n r : Int) : (cut2 ps k h n r).length = ps.length + 1 := by
  unfold cut2
  simp
  omega
theorem wrong_zero {qs : List (Int × Int)} (h : wrong m hs ps = 0) (hl : qs.length ≤ 300) (hq : ∀ p ∈ qs, 0 ≤ p.1 ∧ p.1 < hs.length ∧ 0 ≤ p.2 ∧ p.2 ≤ 400) : wrong m hs qs = 0 := by
  obtain ⟨h1, h2, h3, h4, h5, h6⟩ := wrong_ok h
  unfold wrong
  rw [if_neg (by omega), if_neg (by simpa using h4), if_neg (by omega), if_neg]
  simpa [pickOk] using hq
theorem cut2_wrong (hw : wrong m hs ps = 0) (hl : ps.length < 300) (h : ps[k]? = some p) (hs2 : p.2 = (n + r : Nat)) : wrong m hs (cut2 ps k p.1 n r) = 0 := by
  obtain ⟨_, _, _, _, _, h6⟩ := wrong_ok hw
  have hp := h6 p (List.mem_of_getElem? h)
  have hk := (List.getElem?_eq_some_iff.1 h).1
  refine wrong_zero hw (by rw [cut2_len hk]; omega) fun q hq => ?_
  unfold cut2 at hq
  rcases List.mem_append.1 hq with h1 | h1
  · rcases List.mem_append.1 h1 with h2 | h2
    · exact h6 q (List.mem_of_mem_take h2)
    · simp only [List.mem_cons, List.not_mem_nil, or_false] at h2
      rcases h2 with rfl | rfl
      · exact ⟨hp.1, hp.2.1, by show (0 : Int) ≤ n; omega, by show (n : Int) ≤ 400; omega⟩
      · exact ⟨hp.1, hp.2.1, by show (0 : Int) ≤ r; omega, by show (r : Int) ≤ 400; omega⟩
  · exact h6 q (List.mem_of_mem_drop h1)
/-- Of what may be, no more came out than this. -/
theorem few_play : ∀ (sc : List (Nat × Nat)) {s : Sh} {c n t : Nat}, Fit s c n → Few s t → (∀ p ∈ sc, p.1 < c ∧ p.2 ≤ 400) → Few (play s sc) (t + 400 * sc.length)
  | [], s, c, n, t, f, w, _ => w
  | p :: r, s, c, n, t, f, w, h => by
    have hp := h p (by simp)
    have hk : p.1 < s.hs.length := by rw [f.len]; exact hp.1
    rw [play_cons]
    have e := runs_wk hk p.2
    have o := wk_ok p.2 (w0_ok f hp.1)
    have z : (w0 s p.1).n = 0 := rfl
    have w2 : Few (runs s p.1 p.2) (t + 400) := by rw [e]; exact tk_few w o.1 (by omega)
    have := few_play r (runs_fit hp.1 p.2 f) w2 (fun q hq => h q (by simp [hq]))
    rw [List.length_cons, show t + 400 * (r.length + 1) = t + 400 + 400 * r.length by omega]
    exact this
theorem few_nums (hw : wrong m hs ps = 0) (ok : ∀ h ∈ hs, h.Ok) : Few (play ⟨hs, m, [], 0⟩ (nums ps)) 120000 ∧ Fit (play ⟨hs, m, [], 0⟩ (nums ps)) hs.length m.length := by
  obtain ⟨_, _, _, h4, h5, h6⟩ := wrong_ok hw
  have f : Fit ⟨hs, m, [], 0⟩ hs.length m.length := ⟨rfl, rfl, fun h hm => ⟨ok h hm, h4 h hm⟩⟩
  have hq : ∀ p ∈ nums ps, p.1 < hs.length ∧ p.2 ≤ 400 := fun p hp => by
    obtain ⟨r, hr, rfl⟩ := List.mem_map.1 hp
    have := h6 r hr
    show r.1.toNat < _ ∧ r.2.toNat ≤ _
    omega
  have := few_play (nums ps) (t := 0) f ⟨Nat.le_refl _, Nat.le_refl _⟩ hq
  have hl : (nums ps).length ≤ 300 := by unfold nums; rw [List.length_map]; exact h5
  exact ⟨⟨this.1, by have := this.2; omega⟩, play_fit _ (fun p hp => (hq p hp).1) f⟩
end Go.Proofs.YtdiofidmlgliiaaDoor.Mc
/-
  The walk of the law UndoAll: of every machine and script it answers true.
-/
namespace Go.Proofs.YtdiofidmlgliiaaDoor.undoAll
open Go.ChangeShapes Go.WideShapes Go.ChangeAt Go.RowKit Mm Hh Hc Mc Ud
set_option linter.unusedVariables false
set_option linter.unusedSimpArgs false

set_option maxHeartbeats 4000000 in
set_option maxRecDepth 100000 in
theorem walk_no {ma ha pa : Option Addr} {hn pn : Nat} (mc hc pc : Nat) {m : List UInt8} {hs : List Hv} {ps : List (Int × Int)} {w : World} (mn : Nat) (hmn : m.length = mn) (H : Hs w ha hn hs) (P : Ps w pa pn ps) (b1 : mn ≤ 140737488351232) (b2 : hn ≤ 140737488351232) (b3 : pn ≤ 140737488351232) (hno : ¬ wrong m hs ps = 0) :
    Calls Tryd.prog 7 #[.agg #[.slice ma mn mc, .slice ha hn hc], .slice pa pn pc] w fun e w' => e = .returned (.bool true) ∧ Gr w w' := by
  have HU : Hid (∀ W : World, Gr w W → _) := fun W G => URun_no (ma := ma) mc hc pc mn hmn (H.of G) (P.of G) b1 b2 b3 hno
  have HR : Hid (∀ W : World, Gr w W → _) := fun W G => Run_no (ma := ma) mc hc pc mn hmn (H.of G) (P.of G) b1 b2 b3 hno
  have HP : Hid (Ps w pa pn ps) := P
  clear H P hmn
  generalize wrong m hs ps = E at *
  have hE : (E != 0) = true := by simpa using hno
  have hE2 : (E == 0) = false := by simpa using hno
  have hE3 : (E == E) = true := by simp
  clear hno
  go_enter Tryd.func7, Tryd.ntmps7
  go_wp2_with fail
  go_loopw [5, 6] (fun n i wr => ∃ (k : Nat) (z : Int), k ≤ pn ∧ i = .int .i64 k ∧ n = .int .i64 z ∧ 0 ≤ z ∧ z ≤ 6001 ∧ wr.heap[w.heap.size]? = some (.cells #[.slice ma mn mc, .slice ha hn hc] 34 (0, 0)) ∧ Gr w wr) (fun _ i _ => pn - (intOf i).toNat)
  case atStart => exact ⟨0, 0, Nat.zero_le _, rfl, rfl, by omega, by omega, heap_alloc_new w _, (Gr.refl _).alloc _⟩
  case round =>
    obtain ⟨k, z, hk, rfl, rfl, z0, z1, B, G⟩ := hrel
    have HG : Hid (Gr w wr) := G
    have HB : Hid (wr.heap[w.heap.size]? = some (.cells #[.slice ma mn mc, .slice ha hn hc] 34 (0, 0))) := B
    clear G B
    by_cases hz : z ≤ 3000
    · by_cases hlt : k < pn
      · obtain ⟨p, hp2⟩ : ∃ p, ps[k]? = some p := ⟨_, List.getElem?_eq_getElem (by rw [HP.out.len]; exact hlt)⟩
        obtain ⟨b, o, rfl, hb, hc⟩ := (HP.out.of HG.out).spot (by omega)
        have c1 := (hc k p hp2).2
        clear hp2 hc
        obtain ⟨p1, y⟩ := p
        simp only at *
        generalize hmx : max (min y 3001) 0 = mx at *
        have hm0 : 0 ≤ mx ∧ mx ≤ 3001 := by rw [← hmx, Int.max_def, Int.min_def]; (repeat' split) <;> omega
        by_cases hy : y ≤ 3001
        · by_cases hy0 : 0 ≤ y
          · go_wp2_with fail
            all_goals
              go_roundw
              case rel => exact ⟨k + 1, _, by omega, by go_num, rfl, by omega, by omega, HB.out, HG.out⟩
              case measure => simp [intOf]; omega
          · go_wp2_with fail
            all_goals
              go_roundw
              case rel => exact ⟨k + 1, _, by omega, by go_num, rfl, by omega, by omega, HB.out, HG.out⟩
              case measure => simp [intOf]; omega
        · go_wp2_with fail
          all_goals
            go_roundw
            case rel => exact ⟨k + 1, _, by omega, by go_num, rfl, by omega, by omega, HB.out, HG.out⟩
            case measure => simp [intOf]; omega
      · have x0 := cr0 HB.out
        have x1 := cr1 HB.out
        go_wp2_with fail
        refine (HU.out _ HG.out).mono ?_
        rintro e w1 ⟨rfl, G1⟩
        have HG1 : Hid (Gr w w1) := HG.out.trans G1
        have HB1 : Hid (w1.heap[w.heap.size]? = some (.cells #[.slice ma mn mc, .slice ha hn hc] 34 (0, 0))) := Hr.heap_of_gr G1 HB.out
        have hl1 : w.heap.size < w1.heap.size := (gs HB1.out).1
        clear x0 x1 G1 HG HU HB
        have x0 := cr0 HB1.out
        have x1 := cr1 HB1.out
        go_wp2_with fail
        refine (HR.out _ (HG1.out.alloc _)).mono ?_
        rintro e w2 ⟨rfl, G2⟩
        have HG2 : Hid (Gr w w2) := (HG1.out.alloc _).trans G2
        clear x0 x1 G2 HR
        go_wp2_with fail
        go_ret
        exact ⟨rfl, HG2.out.alloc _⟩
    · by_cases hlt : k < pn
      · go_wp2_with fail
        go_ret
        exact ⟨rfl, HG.out⟩
      · go_wp2_with fail
        go_ret
        exact ⟨rfl, HG.out⟩

set_option maxHeartbeats 4000000 in
set_option maxRecDepth 100000 in
theorem walk_yes {ma ha pa : Option Addr} {hn pn : Nat} (mc hc pc : Nat) {m : List UInt8} {hs : List Hv} {ps : List (Int × Int)} {w : World} (mn : Nat) (T : TT w w.heap.size) (M : Mem w ma mn m) (hcap : ma = none → mc = 0) (H : Hs w ha hn hs) (P : Ps w pa pn ps) (hy : wrong m hs ps = 0) :
    Calls Tryd.prog 7 #[.agg #[.slice ma mn mc, .slice ha hn hc], .slice pa pn pc] w fun e w' => e = .returned (.bool true) ∧ Gr w w' := by
  obtain ⟨b1, b2, b4, hmay, b3, hpk⟩ := wrong_ok hy
  have hml := M.len
  have hhl := H.len
  have hpl := P.len
  have HU : Hid (∀ W : World, Gr w W → _) := fun W G => URun_yes mc hc pc mn (T.grow G) (M.of G) hcap (H.of G) (P.of G) hy
  have HR : Hid (∀ W : World, Gr w W → _) := fun W G => Run_yes mc hc pc mn (T.grow G) (M.of G) hcap (H.of G) (P.of G) hy
  have F0 : Fit ⟨hs, m, [], 0⟩ hn mn := ⟨hhl, hml, fun h hm => ⟨H.ok h hm, hmay h hm⟩⟩
  have LV : Live ⟨hs, m, [], 0⟩ (trP ⟨hs, m, [], 0⟩ (nums ps)) := trP_live _ _ (fun q hq => by
    obtain ⟨r, hr, rfl⟩ := List.mem_map.1 hq
    have := hpk r hr
    show r.1.toNat < hs.length
    omega)
  have Fs0 : Fit (play ⟨hs, m, [], 0⟩ (nums ps)) hn mn := by rw [play_dos]; exact dos_fit LV F0
  have m4 : mn ≤ 4096 := by omega
  have HBk : Hid (bkE mn (play ⟨hs, m, [], 0⟩ (nums ps)).hs (uns ⟨hs, m, [], 0⟩ (trP ⟨hs, m, [], 0⟩ (nums ps))) ((uns ⟨hs, m, [], 0⟩ (trP ⟨hs, m, [], 0⟩ (nums ps))).length : Int) = 0) := by
    unfold Hid bkE
    rw [Fs0.len]
    have h1 : mayM mn (play ⟨hs, m, [], 0⟩ (nums ps)).hs = true := by
      unfold mayM
      rw [Fs0.len, decide_eq_true (by omega)]
      exact List.all_eq_true.2 fun h hm => (Fs0.ok h hm).2
    have h2 : (uns ⟨hs, m, [], 0⟩ (trP ⟨hs, m, [], 0⟩ (nums ps))).all (fitU hn mn) = true := List.all_eq_true.2 fun u hu => (uns_fit m4 _ _ F0 LV u hu).1
    rw [if_neg (by rw [h1]; simp), if_neg (by rw [h2]; simp), if_neg (by omega)]
  have HBa : Hid (backs ((play ⟨hs, m, [], 0⟩ (nums ps)).hs, (play ⟨hs, m, [], 0⟩ (nums ps)).m) (uns ⟨hs, m, [], 0⟩ (trP ⟨hs, m, [], 0⟩ (nums ps))) = (hs, m)) := by
    unfold Hid
    rw [play_dos]
    exact backs_dos _ _ F0 LV
  have HUl : Hid ((uns ⟨hs, m, [], 0⟩ (trP ⟨hs, m, [], 0⟩ (nums ps))).length = (play ⟨hs, m, [], 0⟩ (nums ps)).steps) := by have := uns_steps ⟨hs, m, [], 0⟩ (nums ps); unfold Hid; rw [← this]; simp
  have HSt : Hid ((play ⟨hs, m, [], 0⟩ (nums ps)).steps ≤ 200000) := by have := (few_nums hy H.ok).1.2; unfold Hid; omega
  have HMw : Hid (∀ W : World, Gr w W → Mw W (.agg #[.slice ma mn mc, .slice ha hn hc]) hn mn hs m) := fun W G => ⟨ma, mc, ha, hc, rfl, M.of G, H.of G⟩
  have HP : Hid (Ps w pa pn ps) := P
  have c4 : hn ≤ 4 := by omega
  have c1' : 0 < hn := by omega
  have p4 : pn ≤ 300 := by omega
  clear H P M T hy hcap hmay hpk F0 LV Fs0 hml hhl hpl b1 b2 b4 b3
  generalize play ⟨hs, m, [], 0⟩ (nums ps) = S at *
  generalize uns ⟨hs, m, [], 0⟩ (trP ⟨hs, m, [], 0⟩ (nums ps)) = us at *
  go_enter Tryd.func7, Tryd.ntmps7
  go_wp2_with fail
  go_loopw [5, 6] (fun n i wr => ∃ (k : Nat) (z : Int), k ≤ pn ∧ i = .int .i64 k ∧ n = .int .i64 z ∧ 0 ≤ z ∧ z ≤ 6001 ∧ wr.heap[w.heap.size]? = some (.cells #[.slice ma mn mc, .slice ha hn hc] 34 (0, 0)) ∧ Gr w wr) (fun _ i _ => pn - (intOf i).toNat)
  case atStart => exact ⟨0, 0, Nat.zero_le _, rfl, rfl, by omega, by omega, heap_alloc_new w _, (Gr.refl _).alloc _⟩
  case round =>
    obtain ⟨k, z, hk, rfl, rfl, z0, z1, B, G⟩ := hrel
    have HG : Hid (Gr w wr) := G
    have HB : Hid (wr.heap[w.heap.size]? = some (.cells #[.slice ma mn mc, .slice ha hn hc] 34 (0, 0))) := B
    clear G B
    by_cases hz : z ≤ 3000
    · by_cases hlt : k < pn
      · obtain ⟨p, hp2⟩ : ∃ p, ps[k]? = some p := ⟨_, List.getElem?_eq_getElem (by rw [HP.out.len]; exact hlt)⟩
        obtain ⟨b, o, rfl, hb, hc⟩ := (HP.out.of HG.out).spot (by omega)
        have c1 := (hc k p hp2).2
        clear hp2 hc
        obtain ⟨p1, y⟩ := p
        simp only at *
        generalize hmx : max (min y 3001) 0 = mx at *
        have hm0 : 0 ≤ mx ∧ mx ≤ 3001 := by rw [← hmx, Int.max_def, Int.min_def]; (repeat' split) <;> omega
        by_cases hy : y ≤ 3001
        · by_cases hy0 : 0 ≤ y
          · go_wp2_with fail
            all_goals
              go_roundw
              case rel => exact ⟨k + 1, _, by omega, by go_num, rfl, by omega, by omega, HB.out, HG.out⟩
              case measure => simp [intOf]; omega
          · go_wp2_with fail
            all_goals
              go_roundw
              case rel => exact ⟨k + 1, _, by omega, by go_num, rfl, by omega, by omega, HB.out, HG.out⟩
              case measure => simp [intOf]; omega
        · go_wp2_with fail
          all_goals
            go_roundw
            case rel => exact ⟨k + 1, _, by omega, by go_num, rfl, by omega, by omega, HB.out, HG.out⟩
            case measure => simp [intOf]; omega
      · have x0 := cr0 HB.out
        have x1 := cr1 HB.out
        go_wp2_with fail
        refine (HU.out _ HG.out).mono ?_
        rintro e w1 ⟨v, ua, un, uc, rfl, S1, U1, hu1, G1⟩
        have HS1 : Hid (Shn w1 v hn mn S) := S1
        have HU1 : Hid (Us w1 ua un us) := U1
        have HLu : Hid (us.length = un) := U1.len
        obtain ⟨s1, d1, s2, d2, s3, d3, rfl, hM1, hn1, hH1, _⟩ := S1
        have HM1 : Hid (Mem w1 s1 mn S.m ∧ (s1 = none → d1 = 0) ∧ Hs w1 s2 hn S.hs) := ⟨hM1, hn1, hH1⟩
        have HG1 : Hid (Gr w w1) := HG.out.trans G1
        have HB1 : Hid (w1.heap[w.heap.size]? = some (.cells #[.slice ma mn mc, .slice ha hn hc] 34 (0, 0))) := Hr.heap_of_gr G1 HB.out
        have hl1 : w.heap.size < w1.heap.size := (gs HB1.out).1
        clear x0 x1 G1 HG HU HB U1 hM1 hn1 hH1
        have x0 := cr0 HB1.out
        have x1 := cr1 HB1.out
        go_wp2_with fail
        refine (HR.out _ (HG1.out.alloc _)).mono ?_
        rintro e w2 ⟨v, rfl, S2, G2⟩
        have HS2 : Hid (Shn w2 v hn mn S) := S2
        obtain ⟨t1, f1, t2, f2, t3, f3, rfl, hM2, hn2, hH2, _⟩ := S2
        have HM2 : Hid (Mem w2 t1 mn S.m ∧ Hs w2 t2 hn S.hs) := ⟨hM2, hH2⟩
        have HG12 : Hid (Gr w1 w2) := ((Gr.refl w1).alloc _).trans G2
        have HC1 : Hid (w2.heap[w1.heap.size]? = some (.cells #[.slice s1 mn d1, .slice s2 hn d2, .slice s3 S.out.length d3, .int .i64 S.steps] 40 (0, 0))) := Hr.heap_of_gr G2 (heap_alloc_new w1 _)
        have HB2 : Hid (w2.heap[w.heap.size]? = some (.cells #[.slice ma mn mc, .slice ha hn hc] 34 (0, 0))) := Hr.heap_of_gr HG12.out HB1.out
        have hl2 : w1.heap.size < w2.heap.size := (gs HC1.out).1
        have HBk2 : Hid (∀ W : World, Gr w2 W → Calls Tryd.prog 17 #[.agg #[.slice s1 mn d1, .slice s2 hn d2], .slice ua un uc, .int .i64 un] W fun e w' => ∃ v, e = .returned (.tuple #[v, .int .i64 0]) ∧ Mv w' v hn mn hs m ∧ Gr W w') := fun W G => by
          have G' := HG12.out.trans G
          have := UBack_yes (st := (un : Int)) (lc := uc) (mc := d1) (hc := d2) (HM1.out.1.of G') HM1.out.2.1 (HM1.out.2.2.of G') (HU1.out.of G') (by have := HLu.out; have := HUl.out; have := HSt.out; omega) hu1 (by rw [← HLu.out]; exact HBk.out)
          rw [Int.toNat_natCast, Nat.sub_self, List.drop_zero, HBa.out] at this
          exact this
        clear x0 x1 G2 HR hM2 hn2 hH2 HS1 HS2
        have y0 := cr0 HC1.out
        have y1 := cr1 HC1.out
        go_wp2_with fail
        refine (HBk2.out _ ((Gr.refl _).alloc _)).mono ?_
        rintro e w3 ⟨v, rfl, V3, G3⟩
        have HV3 : Hid (Mv w3 v hn mn hs m) := V3
        obtain ⟨v1, g1, v2, g2, rfl, _⟩ := V3
        have HG23 : Hid (Gr w2 w3) := ((Gr.refl w2).alloc _).trans G3
        have HC2 : Hid (w3.heap[w2.heap.size]? = some (.cells #[.slice t1 mn f1, .slice t2 hn f2, .slice t3 S.out.length f3, .int .i64 S.steps] 40 (0, 0))) := Hr.heap_of_gr G3 (heap_alloc_new w2 _)
        have HC1' : Hid (w3.heap[w1.heap.size]? = some (.cells #[.slice s1 mn d1, .slice s2 hn d2, .slice s3 S.out.length d3, .int .i64 S.steps] 40 (0, 0))) := Hr.heap_of_gr HG23.out HC1.out
        have hl3 : w2.heap.size < w3.heap.size := (gs HC2.out).1
        have hl13 : w1.heap.size < w3.heap.size := by omega
        have hun : ((un : Int) == (S.steps : Int)) = true := by have := HLu.out; have := HUl.out; simp; omega
        have hss' : ((S.steps : Int) == (S.steps : Int)) = true := by simp
        clear y0 y1 G3 HBk2
        have y0 := cr0 HC1'.out
        have y1 := cr1 HC1'.out
        have y3 := cr3 HC1'.out
        have z0' := cr0 HC2.out
        have z1' := cr1 HC2.out
        have z3' := cr3 HC2.out
        go_wp2_with fail
        refine (Machines_same (hs := S.hs) (m := S.m) ⟨s1, d1, s2, d2, rfl, (HM1.out.1.of (HG12.out.trans HG23.out)).of ((Gr.refl _).alloc _), (HM1.out.2.2.of (HG12.out.trans HG23.out)).of ((Gr.refl _).alloc _)⟩ ⟨t1, f1, t2, f2, rfl, (HM2.out.1.of HG23.out).of ((Gr.refl _).alloc _), (HM2.out.2.of HG23.out).of ((Gr.refl _).alloc _)⟩ c4).mono ?_
        rintro e w4 ⟨rfl, G4⟩
        have HG34 : Hid (Gr w3 w4) := ((Gr.refl w3).alloc _).trans G4
        have HD : Hid (w4.heap[w3.heap.size]? = some (.cells #[.slice v1 mn g1, .slice v2 hn g2] 34 (0, 0))) := Hr.heap_of_gr G4 (heap_alloc_new w3 _)
        have HB4 : Hid (w4.heap[w.heap.size]? = some (.cells #[.slice ma mn mc, .slice ha hn hc] 34 (0, 0))) := Hr.heap_of_gr (HG23.out.trans HG34.out) HB2.out
        clear y0 y1 y3 z0' z1' z3' G4
        have y0 := cr0 HD.out
        have y1 := cr1 HD.out
        have x0 := cr0 HB4.out
        have x1 := cr1 HB4.out
        have HGa : Hid (Gr w w4) := HG1.out.trans (HG12.out.trans (HG23.out.trans HG34.out))
        go_wp2_with fail
        refine (Machines_same (HV3.out.mw.of HG34.out) (HMw.out _ HGa.out) c4).mono ?_
        rintro e w5 ⟨rfl, G5⟩
        have HB5 : Hid (w5.heap[w.heap.size]? = some (.cells #[.slice ma mn mc, .slice ha hn hc] 34 (0, 0))) := Hr.heap_of_gr G5 HB4.out
        have HG5 : Hid (Gr w w5) := HGa.out.trans G5
        clear y0 y1 x0 x1 G5
        have x1 := cr1 HB5.out
        go_wp2_with fail
        go_ret
        exact ⟨rfl, HG5.out⟩
    · by_cases hlt : k < pn
      · go_wp2_with fail
        go_ret
        exact ⟨rfl, HG.out⟩
      · go_wp2_with fail
        go_ret
        exact ⟨rfl, HG.out⟩
end Go.Proofs.YtdiofidmlgliiaaDoor.undoAll
/-
  The cells of a hart, and of harts and picks in slices, that are handed in: opened.
-/
namespace Go.Proofs.YtdiofidmlgliiaaDoor.Mc
open Go.ChangeShapes Go.WideShapes Go.ChangeAt Go.RowKit Mm Hh
set_option linter.unusedVariables false
set_option linter.unusedSimpArgs false

variable {α H : Type} {l : List Value} {v : Value} {n : Int} {enc : TypeId × Value → H} {W w : World} {b0 fuel len cap : Nat} {sp : Nat → Bool} {held : Bool} {x : DataW H × List MemPlace} {a : Addr} {ao : Option Addr} {d : DataW H} {p : List MemPlace}
theorem c34 : Tryd.prog.cellsOf 70 = 37 := by kernel_rfl
theorem c32 : Tryd.prog.cellsOf 68 = 32 := by kernel_rfl
theorem c22 : Tryd.prog.cellsOf 59 = 1 := by kernel_rfl
theorem c4 : Tryd.prog.cellsOf 4 = 1 := by kernel_rfl
theorem c3 : Tryd.prog.cellsOf 3 = 1 := by kernel_rfl
theorem list6 {l : List α} (h : l.length = 6) : ∃ a b c d e f, l = [a, b, c, d, e, f] := by
  match l, h with
  | [a, b, c, d, e, f], _ => exact ⟨a, b, c, d, e, f, rfl⟩
theorem cut_one {k : Nat} (h : (l.drop k).take 1 = [v]) : l[k]? = some v := by
  have := congrArg (fun x => x[0]?) h
  simpa using this
theorem u32_bd (h : (Lit.int .u32 n).wf = true) : 0 ≤ n ∧ n < 4294967296 := by
  have : 0 ≤ n ∧ n ≤ 4294967295 := by simpa [Lit.wf, IntKind.min, IntKind.max, IntKind.signed, IntKind.bits] using h
  omega
set_option maxRecDepth 100000 in
theorem hart_cells
    (hf : DataW.trod enc Tryd.prog W b0 sp held fuel 70 l = some x) : ∃ hh : Hv, l = hL hh ∧ hh.Ok := by
  obtain ⟨xs, m, rfl, hx, hcl, hlen, hel⟩ := DataW.trod_struct Tryd.underlying70 hf
  obtain ⟨y0, y1, y2, y3, y4, y5, rfl⟩ := list6 (l := xs) hlen
  clear hf hlen hx
  have k0 : DataW.trod enc Tryd.prog W b0 sp held m 68 ((l.drop 0).take (Tryd.prog.cellsOf 68)) = some y0 := hel 0 _ rfl
  have k1 : DataW.trod enc Tryd.prog W b0 sp held m 59 ((l.drop 32).take (Tryd.prog.cellsOf 59)) = some y1 := hel 1 _ rfl
  have k2 : DataW.trod enc Tryd.prog W b0 sp held m 4 ((l.drop 33).take (Tryd.prog.cellsOf 4)) = some y2 := hel 2 _ rfl
  have k3 : DataW.trod enc Tryd.prog W b0 sp held m 59 ((l.drop 34).take (Tryd.prog.cellsOf 59)) = some y3 := hel 3 _ rfl
  have k4 : DataW.trod enc Tryd.prog W b0 sp held m 3 ((l.drop 35).take (Tryd.prog.cellsOf 3)) = some y4 := hel 4 _ rfl
  have k5 : DataW.trod enc Tryd.prog W b0 sp held m 3 ((l.drop 36).take (Tryd.prog.cellsOf 3)) = some y5 := hel 5 _ rfl
  clear hel
  have hl : l.length = 37 := by rw [hcl, c34]
  obtain ⟨pc, e1, _, w1⟩ := DataW.trod_int Tryd.underlying59 k1
  obtain ⟨hd, e2, _⟩ := DataW.trod_bool Tryd.underlying4 k2
  obtain ⟨ha, e3, _, w3⟩ := DataW.trod_int Tryd.underlying59 k3
  obtain ⟨st, e4, _, _⟩ := DataW.trod_int Tryd.underlying3 k4
  obtain ⟨ca, e5, _, _⟩ := DataW.trod_int Tryd.underlying3 k5
  obtain ⟨zs, m2, rfl, _, _, hzl, hze⟩ := DataW.trod_array Tryd.underlying68 k0
  clear k0 k1 k2 k3 k4 k5
  rw [c22] at e1 e3
  rw [c4] at e2
  rw [c3] at e4 e5
  have q1 := cut_one e1
  have q2 := cut_one e2
  have q3 := cut_one e3
  have q4 := cut_one e4
  have q5 := cut_one e5
  have qr : ∀ i, i < 32 → ∃ n, l[i]? = some (.int .u32 n) ∧ 0 ≤ n ∧ n < 4294967296 := fun i hi => by
    have ki := hze i hi
    rw [List.getElem?_eq_getElem (by omega)] at ki
    obtain ⟨n, en, _, wn⟩ := DataW.trod_int Tryd.underlying59 ki
    rw [c22, c32] at en
    refine ⟨n, ?_, u32_bd wn⟩
    have := congrArg (fun x => x[0]?) en
    simp only [List.getElem?_take, List.getElem?_drop] at this
    rw [if_pos (by omega), if_pos (by omega)] at this
    simpa using this
  clear hze e1 e2 e3 e4 e5
  have qn : ∀ i, i < 32 → l[i]? = some (.int .u32 (intOf (l.getD i undef))) ∧ 0 ≤ intOf (l.getD i undef) ∧ intOf (l.getD i undef) < 4294967296 := fun i hi => by
    obtain ⟨n, en, b⟩ := qr i hi
    simp only [List.getD, en, Option.getD_some, intOf]
    exact ⟨trivial, b⟩
  refine ⟨⟨(List.range 32).map fun i => intOf (l.getD i undef), pc, hd, ha, st, ca⟩, ?_, ?_⟩
  · have : l = hL ⟨(List.range 32).map fun i => intOf (l.getD i undef), pc, hd, ha, st, ca⟩ := by
      apply List.ext_getElem?
      intro i
      unfold hL
      by_cases hi : i < 32
      · rw [List.getElem?_append_left (by simpa using hi), (qn i hi).1]
        simp [hi]
      · rw [List.getElem?_append_right (by simp; omega)]
        simp only [List.length_map, List.length_range]
        by_cases h37 : i < 37
        · have : i = 32 ∨ i = 33 ∨ i = 34 ∨ i = 35 ∨ i = 36 := by omega
          rcases this with rfl | rfl | rfl | rfl | rfl
          · exact q1
          · exact q2
          · exact q3
          · exact q4
          · exact q5
        · rw [List.getElem?_eq_none (by omega), List.getElem?_eq_none (by simp; omega)]
    exact this
  · refine ⟨by simp, fun i => ?_, (u32_bd w1).1, (u32_bd w1).2, (u32_bd w3).1, (u32_bd w3).2⟩
    unfold rg
    simp only [List.getD, List.getElem?_map]
    by_cases hi : i < 32
    · rw [List.getElem?_eq_getElem (by simpa using hi)]
      simp only [List.getElem_range, Option.map_some, Option.getD_some]
      exact (qn i hi).2
    · rw [List.getElem?_eq_none (by simp; omega)]
      simp


theorem c62 : Tryd.prog.cellsOf 56 = 2 := by kernel_rfl
theorem list2 {l : List α} (h : l.length = 2) : ∃ a b, l = [a, b] := by
  match l, h with
  | [a, b], _ => exact ⟨a, b, rfl⟩
theorem i64_bd (h : (Lit.int .i64 n).wf = true) : -9223372036854775808 ≤ n ∧ n ≤ 9223372036854775807 := by
  simpa [Lit.wf, IntKind.min, IntKind.max, IntKind.signed, IntKind.bits] using h
set_option maxRecDepth 100000 in
theorem pick_cells
    (hf : DataW.trod enc Tryd.prog W b0 sp held fuel 56 l = some x) : ∃ p : Int × Int, l = [.int .i64 p.1, .int .i64 p.2] ∧ -9223372036854775808 ≤ p.1 ∧ p.1 ≤ 9223372036854775807 ∧ -9223372036854775808 ≤ p.2 ∧ p.2 ≤ 9223372036854775807 := by
  obtain ⟨xs, m, rfl, hx, hcl, hlen, hel⟩ := DataW.trod_struct Tryd.underlying56 hf
  obtain ⟨y0, y1, rfl⟩ := list2 (l := xs) hlen
  have k0 : DataW.trod enc Tryd.prog W b0 sp held m 3 ((l.drop 0).take (Tryd.prog.cellsOf 3)) = some y0 := hel 0 _ rfl
  have k1 : DataW.trod enc Tryd.prog W b0 sp held m 3 ((l.drop 1).take (Tryd.prog.cellsOf 3)) = some y1 := hel 1 _ rfl
  rw [c62] at hcl
  obtain ⟨a, b, rfl⟩ := list2 hcl
  obtain ⟨p, e0, _, w0⟩ := DataW.trod_int Tryd.underlying3 k0
  obtain ⟨q, e1, _, w1⟩ := DataW.trod_int Tryd.underlying3 k1
  rw [c3] at e0 e1
  simp at e0 e1
  subst e0 e1
  exact ⟨(p, q), rfl, (i64_bd w0).1, (i64_bd w0).2, (i64_bd w1).1, (i64_bd w1).2⟩

/-- Cells from an address on, one by one. -/
theorem cells_each {n : Nat} {cs : List Value} (h : w.cells? 0 a n = some cs) : cs.length = n ∧ ∀ j, j < n → w.cell? (a.add j) = cs[j]? := by
  obtain ⟨_, hl, hc⟩ := World.cells?_some h
  exact ⟨hl, hc⟩
theorem spot_none (h : w.cell? (a.add 0) = some v) : a.spot = none := by simpa [Addr.add] using World.cell?_spot h
/-- An argument of type []api.Hart, opened. -/
theorem open_harts
    (hf : DataW.trod enc Tryd.prog W 0 (fun _ => true) true fuel 32 (Value.slice ao len cap).cells.toList = some (d, p)) : ∃ hs : List Hv, Hs W ao len hs ∧ (ao = none → cap = 0) ∧ (d = .nil ∧ len = 0 ∨ ∃ el sp, d = .slice el sp ∧ el.length = len) := by
  rcases Deep.open_slice Tryd.underlying32 hf with ⟨hcs, hx⟩ | ⟨a, len', cap', m, n, D, Pl, hcs, hb, hl, hm, em, hx, hel⟩
  · simp [Value.cells] at hcs
    obtain ⟨rfl, rfl, rfl⟩ := hcs
    exact ⟨[], ⟨rfl, fun h hm => (by cases hm), fun h => absurd h (by omega)⟩, fun _ => rfl, .inl ⟨by injection hx, rfl⟩⟩
  · simp [Value.cells] at hcs
    obtain ⟨rfl, rfl, rfl⟩ := hcs
    have em2 : m = cap := by simpa using em
    have hex : ∀ i, i < len → ∃ h : Hv, h.Ok ∧ ∀ j v, (hL h)[j]? = some v → W.cell? (a.add (i * 37 + j)) = some v := fun i hi => by
      obtain ⟨cs', hc, ht⟩ := hel i (by omega)
      obtain ⟨hh, rfl, ok⟩ := hart_cells ht
      rw [c34] at hc
      obtain ⟨_, hc⟩ := cells_each hc
      refine ⟨hh, ok, fun j v hv => ?_⟩
      have hj : j < 37 := by have := (List.getElem?_eq_some_iff.1 hv).1; rwa [hL_len ok] at this
      have := hc j hj
      rw [Deep.add_add] at this
      rw [this]
      exact hv
    obtain ⟨f, hf2⟩ := @Deep.choose_lt Hv ⟨hN⟩ len _ hex
    refine ⟨(List.range len).map f, ⟨by simp, fun h hm => ?_, fun hn => ?_⟩, fun e => (by cases e), .inr ⟨_, _, by injection hx, by simp⟩⟩
    · obtain ⟨i, hi, rfl⟩ := List.mem_map.1 hm
      exact (hf2 i (List.mem_range.1 hi)).1
    · obtain ⟨b, o, s⟩ := a
      have c0 := (hf2 0 hn).2 0 _ (hL_reg (hf2 0 hn).1 (by omega))
      have hs : s = none := spot_none (by simpa using c0)
      subst hs
      have hb : b < W.heap.size := by simpa [Addr.add] using World.block_lt_of_cell? W _ c0
      refine ⟨b, o, rfl, hb, fun i h hi j v hv => ?_⟩
      rw [List.getElem?_map] at hi
      by_cases hl2 : i < len
      · rw [List.getElem?_eq_getElem (by simpa using hl2)] at hi
        simp at hi
        subst hi
        have := (hf2 i hl2).2 j v hv
        rw [add_at] at this
        rw [Nat.add_assoc]
        exact this
      · rw [List.getElem?_eq_none (by simp; omega)] at hi
        cases hi
/-- An argument of type []api.Pick, opened. -/
theorem open_picks
    (hf : DataW.trod enc Tryd.prog W 0 (fun _ => true) true fuel 35 (Value.slice ao len cap).cells.toList = some (d, p)) :
    ∃ ps : List (Int × Int), Ps W ao len ps ∧ (ao = none → cap = 0) ∧ (len ≤ cap ∧ cap ≤ maxLen) ∧ (d = .nil ∧ len = 0 ∨ ∃ el sp, d = .slice el sp ∧ el.length = len) ∧ ∀ p ∈ ps, -9223372036854775808 ≤ p.1 ∧ p.1 ≤ 9223372036854775807 ∧ -9223372036854775808 ≤ p.2 ∧ p.2 ≤ 9223372036854775807 := by
  rcases Deep.open_slice Tryd.underlying35 hf with ⟨hcs, hx⟩ | ⟨a, len', cap', m, n, D, Pl, hcs, hb, hl, hm, em, hx, hel⟩
  · simp [Value.cells] at hcs
    obtain ⟨rfl, rfl, rfl⟩ := hcs
    exact ⟨[], ⟨rfl, fun h => absurd h (by omega)⟩, fun _ => rfl, ⟨Nat.le_refl _, Nat.zero_le _⟩, .inl ⟨by injection hx, rfl⟩, fun h hm => (by cases hm)⟩
  · simp [Value.cells] at hcs
    obtain ⟨rfl, rfl, rfl⟩ := hcs
    have em2 : m = cap := by simpa using em
    have hex : ∀ i, i < len → ∃ q : Int × Int, (-9223372036854775808 ≤ q.1 ∧ q.1 ≤ 9223372036854775807 ∧ -9223372036854775808 ≤ q.2 ∧ q.2 ≤ 9223372036854775807) ∧ W.cell? (a.add (i * 2)) = some (.int .i64 q.1) ∧ W.cell? (a.add (i * 2 + 1)) = some (.int .i64 q.2) := fun i hi => by
      obtain ⟨cs', hc, ht⟩ := hel i (by omega)
      obtain ⟨q, rfl, bd⟩ := pick_cells ht
      rw [c62] at hc
      obtain ⟨_, hc⟩ := cells_each hc
      have h0 := hc 0 (by omega)
      have h1 := hc 1 (by omega)
      rw [Deep.add_add] at h0 h1
      exact ⟨q, bd, h0, h1⟩
    obtain ⟨f, hf2⟩ := @Deep.choose_lt (Int × Int) ⟨(0, 0)⟩ len _ hex
    refine ⟨(List.range len).map f, ⟨by simp, fun hn => ?_⟩, fun e => (by cases e), ⟨hl, hm⟩, .inr ⟨_, _, by injection hx, by simp⟩, fun h hm => ?_⟩
    · obtain ⟨b, o, s⟩ := a
      have c0 := (hf2 0 hn).2.1
      have hs : s = none := spot_none (by simpa using c0)
      subst hs
      have hb : b < W.heap.size := by simpa [Addr.add] using World.block_lt_of_cell? W _ c0
      refine ⟨b, o, rfl, hb, fun i h hi => ?_⟩
      rw [List.getElem?_map] at hi
      by_cases hl2 : i < len
      · rw [List.getElem?_eq_getElem (by simpa using hl2)] at hi
        simp at hi
        subst hi
        obtain ⟨_, q0, q1⟩ := hf2 i hl2
        rw [add_at] at q0 q1
        exact ⟨q0, by rw [Nat.add_assoc]; exact q1⟩
      · rw [List.getElem?_eq_none (by simp; omega)] at hi
        cases hi
    · obtain ⟨i, hi, rfl⟩ := List.mem_map.1 hm
      exact (hf2 i (List.mem_range.1 hi)).1
end Go.Proofs.YtdiofidmlgliiaaDoor.Mc
