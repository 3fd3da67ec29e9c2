/-
  Mb9, Ref5b, Mk, Ref5c, Ref4c, Ref4d, Ref4e, Ref4r, Ref4f1, Ref4f2, Ref4f3, Ref4f4, Ref4f5, Ref4g, Ref5p, Ref5d, Kr4, MachineRunsW, EsW: texts of ours that lie in one file.
-/
import Derived.Test.YtchllaeembmioaaGreatDoorR28
import Derived.Deep.RegionWith
import Derived.Test.YtchllaeembmioaaGreatDoorR14
import Derived.Test.YtchllaeembmioaaGreatDoorR07
import Derived.Test.YtchllaeembmioaaGreatDoorR13
import Derived.Test.YtchllaeembmioaaGreatDoorR11
import Derived.Test.YtchllaeembmioaaGreatDoorR12
import Derived.Maps.AppendAt
import Derived.Test.YtchllaeembmioaaGreatDoorR01
import Derived.Test.YtchllaeembmioaaGreatDoorR05
set_option linter.unusedVariables false
set_option linter.unusedSimpArgs false
set_option maxHeartbeats 8000000
set_option maxRecDepth 100000
namespace Go.Proofs.YtchllaeembmioaaGreatDoor.Mc
open Go.ChangeShapes Go.WideShapes Go.ChangeAt Go.RowKit Mm Hh Hc

theorem wk_ok {m : Nat} : ∀ (n : Nat) {x : Wk}, WOk x m → WOk (wk x n) m ∧ (wk x n).n ≤ x.n + n
  | 0, x, o => ⟨o, Nat.le_refl _⟩
  | n + 1, x, o => by
    unfold wk
    split
    · rename_i h
      have := wk_ok n (wk1_ok o h)
      refine ⟨this.1, ?_⟩
      have h2 := this.2
      have : (wk1 x).n = x.n + 1 := rfl
      omega
    · exact ⟨o, by omega⟩
def Few (s : Sh) (t : Nat) : Prop := s.out.length ≤ s.steps ∧ s.steps ≤ t
theorem tk_few {s : Sh} {t m n k : Nat} {x : Wk} (f : Few s t) (o : WOk x m) (h : x.n ≤ n) : Few (tk s k x) (t + n) := by
  unfold Few tk at *
  have := o.out
  simp only [List.length_append]
  omega
def nums (ps : List (Int × Int)) : List (Nat × Nat) := ps.map fun p => (p.1.toNat, p.2.toNat)
theorem nums_get {ps : List (Int × Int)} {j : Nat} {p : Int × Int} (h : ps[j]? = some p) : (nums ps).take (j + 1) = (nums ps).take j ++ [(p.1.toNat, p.2.toNat)] := by
  refine take_snoc ?_
  unfold nums
  rw [List.getElem?_map, h]
  rfl
theorem wrong_ok {m : List UInt8} {hs : List Hv} {ps : List (Int × Int)} (h : wrong m hs ps = 0) : m.length ≤ 4096 ∧ 1 ≤ hs.length ∧ hs.length ≤ 4 ∧ (∀ h ∈ hs, may h = true) ∧ ps.length ≤ 300 ∧ ∀ p ∈ ps, 0 ≤ p.1 ∧ p.1 < hs.length ∧ 0 ≤ p.2 ∧ p.2 ≤ 400 := by
  unfold wrong at h
  split at h
  · omega
  split at h
  · omega
  split at h
  · omega
  split at h
  · omega
  rename_i h1 h2 h3 h4
  refine ⟨by omega, by omega, by omega, ?_, by omega, fun p hp => ?_⟩
  · simpa using h2
  · have := (List.all_eq_true.1 (by simpa using h4)) p hp
    simpa [pickOk] using this
theorem HRow.lt {w : World} {g : Nat} {hs : List Hv} (r : HRow w g hs) : g < w.heap.size := by
  obtain ⟨_, e⟩ := r.row; exact (Array.getElem?_eq_some_iff.1 e).1
theorem HRow.hs {w : World} {g c : Nat} {hs : List Hv} (r : HRow w g hs) (h : hs.length = c) : Hs w (some ⟨g, 0, none⟩) c hs :=
  ⟨h, r.ok, fun _ => ⟨g, 0, rfl, r.lt, fun i q hq => by rw [Nat.zero_add]; exact r.range hq⟩⟩
def Shn (w : World) (v : Value) (c mn : Nat) (S : Sh) : Prop := ∃ ma mc ha hc oa oc, v = .agg #[.slice ma mn mc, .slice ha c hc, .slice oa S.out.length oc, .int .i64 S.steps] ∧ Mem w ma mn S.m ∧ (ma = none → mc = 0) ∧ Hs w ha c S.hs ∧ Wm w oa S.out.length S.out ∧ (oa = none → oc = 0)
theorem own_cap {w : World} {a : Option Addr} {n c : Nat} {l : List UInt8} (h : Own w 0 (.slice a n c) l) : a = none → c = 0 := by
  rintro rfl
  rcases h with ⟨h, _⟩ | ⟨k, cap, h, _⟩
  · injection h
  · cases h
theorem owns_cap {w : World} {base e sz n c : Nat} {a : Option Addr} {xs : List Value} (h : w.ownsRow base e sz (.slice a n c) n xs) : a = none → c = 0 := by
  rintro rfl
  rcases h.2 with ⟨h, _⟩ | ⟨g, cap, cur, h, _⟩
  · injection h
  · cases h
theorem gr_trans2 {a b c : World} {n : Nat} (h : Gr a b) (k : Below n b c) (hn : a.heap.size ≤ n) : Gr a c := Below.trans h (Below.mono k hn)
theorem shn_own {w : World} {va oa : Option Addr} {vc gh hc oc c mn base : Nat} {S : Sh} (h1 : Own w 0 (.slice va mn vc) S.m) (hm : S.m.length = mn) (h2 : HRow w gh S.hs) (hl : S.hs.length = c) (h3 : w.ownsRow base 42 1 (.slice oa S.out.length oc) S.out.length (S.out.map (Value.int .u32))) :
    Shn w (.agg #[.slice va mn vc, .slice (some ⟨gh, 0, none⟩) c hc, .slice oa S.out.length oc, .int .i64 S.steps]) c mn S := by
  obtain ⟨a, b, e, M⟩ := h1.mem
  obtain ⟨a2, b2, e2, W⟩ := wm_own rfl h3
  injection e with e3 e4 e5
  injection e2 with e6 e7 e8
  subst e3 e6
  rw [hm] at M
  exact ⟨_, _, _, _, _, _, rfl, M, own_cap h1, h2.hs hl, W, owns_cap h3⟩
theorem iS : (Tryz.prog.info? 32).map (·.size) = some 4 := by kernel_rfl

theorem Run_no {ma ha pa : Option Addr} {hn pn : Nat} (mc hc pc : Nat) {m : List UInt8} {hs : List Hv} {ps : List (Int × Int)} {w : World} (mn : Nat) (hmn : m.length = mn) (H : Hs w ha hn hs) (P : Ps w pa pn ps) (b1 : mn ≤ 140737488351232) (b2 : hn ≤ 140737488351232) (b3 : pn ≤ 140737488351232) (hno : ¬ wrong m hs ps = 0) :
    Calls Tryz.prog 15 #[.agg #[.slice ma mn mc, .slice ha hn hc], .slice pa pn pc] w fun e w' => e = .returned (.tuple #[.agg #[.slice none 0 0, .slice none 0 0, .slice none 0 0, .int .i64 0], .int .i64 (wrong m hs ps)]) ∧ Gr w w' := by
  have HM : Hid (∀ W : World, Gr w W → Calls Tryz.prog 17 #[.agg #[.slice ma mn mc, .slice ha hn hc], .slice pa pn pc] W fun e w' => e = .returned (.tuple #[.agg #[.slice none 0 0, .slice none 0 0, .slice none 0 0, .int .i64 0], .int .i64 (wrong m hs ps)]) ∧ Gr W w') := fun W G => NewBoard_no mc hc pc mn hmn (H.of G) (P.of G) b1 b2 b3 hno
  clear H P hmn
  generalize wrong m hs ps = E at *
  have hE : (E != 0) = true := by simpa using hno
  clear hno
  go_enter Tryz.func15, Tryz.ntmps15
  go_wp2_with fail
  refine (HM.out _ (((Gr.refl _).alloc _).alloc _)).mono ?_
  rintro e w1 ⟨rfl, G1⟩
  have HG1 : Hid (Gr w w1) := (((Gr.refl _).alloc _).alloc _).trans G1
  have HB : Hid (w1.heap[w.heap.size + 1]? = some (.cells #[.slice none 0 0, .slice none 0 0, .slice none 0 0, .int .i64 0] 32 (0, 0))) := (two_of G1).2
  have hlt : w.heap.size + 1 < w1.heap.size := (Array.getElem?_eq_some_iff.1 HB.out).1
  clear G1 HM
  have HI : Hid ((Tryz.prog.info? 32).map (·.size) = some 4) := iS
  have HB2 : Hid (∀ Y : Array Value, (w1.alloc (.cells Y 59)).heap[w.heap.size + 1]? = some (.cells #[.slice none 0 0, .slice none 0 0, .slice none 0 0, .int .i64 0] 32 (0, 0))) := fun Y => Hr.heap_of_gr ((Gr.refl _).alloc _) HB.out
  go_wp2_with (refine wpList_store_row rfl 32 _ _ rfl (w.heap.size + 1) #[.slice none 0 0, .slice none 0 0, .slice none 0 0, .int .i64 0] rfl rfl 32 _ ?hb HI.out rfl (by kernel_rfl) ?_; (case hb => exact HB2.out _))
  refine bodyPost_ret (v := .tuple #[.agg _, .int .i64 E]) (Hr.results_cell_tmp' Tryz.results15 _ _ _ _ _ (0, 0) _ _ rfl rfl (setRow_heap _ _ _ _ _ (0, 0) (HB2.out _)) Tryz.underlying32 rfl HI.out) rfl ⟨rfl, ?_⟩
  exact gr_setRow (HG1.out.alloc _) (Nat.le_succ _) _

theorem Run_yes {ma ha pa : Option Addr} {hn pn : Nat} (mc hc pc : Nat) {m : List UInt8} {hs : List Hv} {ps : List (Int × Int)} {w : World} (mn : Nat) (T : TT w w.heap.size) (M : Mem w ma mn m) (hcap : ma = none → mc = 0) (H : Hs w ha hn hs) (P : Ps w pa pn ps) (hy : wrong m hs ps = 0) :
    Calls Tryz.prog 15 #[.agg #[.slice ma mn mc, .slice ha hn hc], .slice pa pn pc] w fun e w' => ∃ v, e = .returned (.tuple #[v, .int .i64 0]) ∧ Shn w' v hn mn (play ⟨hs, m, [], 0⟩ (nums ps)) ∧ Gr w w' := by
  obtain ⟨b1, b2, b4, hmay, b3, hpk⟩ := wrong_ok hy
  have hml := M.len
  have hhl := H.len
  have hpl := P.len
  have HN : Hid (∀ W : World, Gr w W → Calls Tryz.prog 17 #[.agg #[.slice ma mn mc, .slice ha hn hc], .slice pa pn pc] W fun e w' => ∃ a c gh hc, e = .returned (.tuple #[.agg #[.slice a mn c, .slice (some ⟨gh, 0, none⟩) hn hc, .slice none 0 0, .int .i64 0], .int .i64 0]) ∧ Own w' 0 (.slice a mn c) m ∧ W.heap.size ≤ gh ∧ HRow w' gh hs ∧ Gr W w') := fun W G => NewBoard_yes mc hc pc mn (M.of G) hcap (H.of G) (P.of G) (by omega) hy (by omega) (by omega) (by omega)
  have F0 : Fit ⟨hs, m, [], 0⟩ hn mn := ⟨hhl, hml, fun h hm => ⟨H.ok h hm, hmay h hm⟩⟩
  have HF0 : Hid (Fit ⟨hs, m, [], 0⟩ hn mn) := F0
  have HT : Hid (TT w w.heap.size) := T
  have HP : Hid (Ps w pa pn ps) := P
  have HPL : Hid (ps.length = pn) := hpl
  have HPK : Hid (∀ p ∈ ps, 0 ≤ p.1 ∧ p.1 < hn ∧ 0 ≤ p.2 ∧ p.2 ≤ 400) := by rw [hhl] at hpk; exact hpk
  have HHL : Hid (hs.length = hn) := hhl
  have HML : Hid (m.length = mn) := hml
  have c4 : hn ≤ 4 := by omega
  have m4 : mn ≤ 4096 := by omega
  have p4 : pn ≤ 300 := by omega
  clear M H P hy hcap T F0 hmay hpk hml hhl hpl b1 b2 b4 b3
  go_enter Tryz.func15, Tryz.ntmps15
  go_wp2_with fail
  refine (HN.out _ (((Gr.refl _).alloc _).alloc _)).mono ?_
  rintro e w1 ⟨a1, c1, gh, hc1, rfl, O1, hgh, R1, G1⟩
  have HG1 : Hid (Gr w w1) := (((Gr.refl _).alloc _).alloc _).trans G1
  have HS1 : Hid (w1.heap[w.heap.size + 1]? = some (.cells #[.slice none 0 0, .slice none 0 0, .slice none 0 0, .int .i64 0] 32 (0, 0))) := (two_of G1).2
  have hlt : w.heap.size + 1 < w1.heap.size := (Array.getElem?_eq_some_iff.1 HS1.out).1
  have hgh2 : w.heap.size + 2 ≤ gh := by simpa using hgh
  have HO1 : Hid (Own w1 0 (.slice a1 mn c1) m) := O1
  have HR1 : Hid (HRow w1 gh hs) := R1
  have HB1 : Hid (∀ Y : Array Value, Bw 59 [] ((w1.alloc (.cells Y 59)).setRow w1.heap.size #[.slice a1 mn c1, .slice (some ⟨gh, 0, none⟩) hn hc1, .slice none 0 0, .int .i64 0]) (w.heap.size + 2) w1.heap.size (.slice a1 mn c1) gh hc1 (.slice none 0 0) ⟨hs, m, [], 0⟩) := fun Y => by
    have G : Gr w1 ((w1.alloc (.cells Y 59)).setRow w1.heap.size #[.slice a1 mn c1, .slice (some ⟨gh, 0, none⟩) hn hc1, .slice none 0 0, .int .i64 0]) := gr_setRow ((Gr.refl _).alloc _) (Nat.le_refl _) _
    refine ⟨by decide, by decide, by decide, by omega, ?_, own_gr HO1.out G, hgh2, HR1.out.of G, World.ownsRow_nil _ _ _ _⟩
    show _ = some (Obj.cells #[.slice a1 mn c1, .slice (some ⟨gh, 0, none⟩) hs.length hc1, .slice none 0 0, .int .i64 ((0 : Nat) : Int)] 59 (0, 0))
    rw [HHL.out]
    exact setRow_heap _ _ _ _ _ (0, 0) (heap_alloc_new w1 _)
  have HI : Hid ((Tryz.prog.info? 59).map (·.size) = some 4) := iB
  clear O1 R1 G1 hgh HN
  go_wp2_with (refine wpList_store_row rfl 59 _ _ rfl w1.heap.size #[.slice a1 mn c1, .slice (some ⟨gh, 0, none⟩) hn hc1, .slice none 0 0, .int .i64 0] rfl rfl 59 _ (heap_alloc_new w1 _) HI.out rfl (one_bd _ _ _ _ _ _ _ _ _ _) ?_)
  go_loopw [22] (fun i wr => ∃ j : Nat, j ≤ pn ∧ i = .int .i64 j ∧ Bd 59 [] wr (w.heap.size + 2) w1.heap.size (play ⟨hs, m, [], 0⟩ ((nums ps).take j)) ∧ Few (play ⟨hs, m, [], 0⟩ ((nums ps).take j)) (400 * j) ∧ Below (w.heap.size + 2) w1 wr) (fun i _ => pn - (intOf i).toNat)
  case atStart =>
    refine ⟨0, Nat.zero_le _, rfl, ?_, ⟨Nat.le_refl _, Nat.le_refl _⟩, ?_⟩
    · exact ⟨_, _, _, _, HB1.out _⟩
    · exact Below.mono (gr_setRow ((Gr.refl w1).alloc _) (Nat.le_refl _) _) (by omega)
  case round =>
    obtain ⟨j, hj, rfl, B, fw, L⟩ := hrel
    have HB : Hid (Bd 59 [] wr (w.heap.size + 2) w1.heap.size (play ⟨hs, m, [], 0⟩ ((nums ps).take j))) := B
    have HFW : Hid (Few (play ⟨hs, m, [], 0⟩ ((nums ps).take j)) (400 * j)) := fw
    have HL : Hid (Below (w.heap.size + 2) w1 wr) := L
    have HGW : Hid (Gr w wr) := gr_trans2 HG1.out L (by omega)
    clear B fw L HB1
    by_cases hlt2 : j < pn
    · obtain ⟨p, hp⟩ : ∃ p, ps[j]? = some p := ⟨_, List.getElem?_eq_getElem (by rw [HPL.out]; exact hlt2)⟩
      obtain ⟨z0, z1, z2, z3⟩ := HPK.out p (List.mem_of_getElem? hp)
      obtain ⟨b', o', rfl, hb', hcell'⟩ := HP.out.spot (by omega)
      have q0 : wr.cell? ⟨b', o' + j * 2, none⟩ = some (.int .i64 p.1) := (HGW.out.cell _ (by exact hb')).trans (hcell' j p hp).1
      have q1 : wr.cell? ⟨b', o' + j * 2 + 1, none⟩ = some (.int .i64 p.2) := (HGW.out.cell _ (by exact hb')).trans (hcell' j p hp).2
      have HTK : Hid ((nums ps).take (j + 1) = (nums ps).take j ++ [(p.1.toNat, p.2.toNat)]) := nums_get hp
      have HFs : Hid (Fit (play ⟨hs, m, [], 0⟩ ((nums ps).take j)) hn mn) := play_fit _ (fun q hq => by
        obtain ⟨r, hr, rfl⟩ := List.mem_map.1 (List.mem_of_mem_take hq)
        have := HPK.out r hr
        show r.1.toNat < hn
        omega) HF0.out
      clear hp hcell'
      obtain ⟨p1, p2⟩ := p
      simp only at *
      obtain ⟨k, rfl⟩ := Int.eq_ofNat_of_zero_le z0
      obtain ⟨n, rfl⟩ := Int.eq_ofNat_of_zero_le z2
      simp only [Int.toNat_natCast] at HTK
      have hk : k < hn := by omega
      have hn4 : n ≤ 400 := by omega
      have HNX : Hid (play ⟨hs, m, [], 0⟩ ((nums ps).take (j + 1)) = tk (play ⟨hs, m, [], 0⟩ ((nums ps).take j)) k (wk (w0 (play ⟨hs, m, [], 0⟩ ((nums ps).take j)) k) n)) := by
        unfold Hid
        rw [HTK.out, play_app, play_cons]
        exact runs_wk (by rw [HFs.out.len]; exact hk) n
      have HX := wk_ok n (w0_ok HFs.out hk)
      generalize hS : play ⟨hs, m, [], 0⟩ ((nums ps).take j) = s at *
      clear hS z0 z1 z2 z3 HTK
      obtain ⟨Mv, gh', hc', Ov, B⟩ := HB.out
      have HXo : Hid (WOk (wk (w0 s k) n) mn) := HX.1
      have HXn : Hid ((wk (w0 s k) n).n ≤ n) := by have := HX.2; have e : (w0 s k).n = 0 := rfl; unfold Hid; omega
      have HWk : Hid (∀ W : World, Gr wr W → Calls Tryz.prog 28 #[.pointer (some ⟨w1.heap.size, 0, none⟩), .agg #[.int .i64 k, .int .i64 n]] W fun e w' => ∃ d, e = .returned (.agg (qA d)) ∧ d.h.Ok ∧ Dq w' W.heap.size d (wk (w0 s k) n) ∧ Gr W w') := fun W G => Work_any (B.of G) HFs.out m4 (HT.out.grow (HGW.out.trans G)) hk c4 hn4
      have HTk : Hid (∀ (W : World) (d : Qv) (b : Nat), Gr wr W → d.h.Ok → Dq W b d (wk (w0 s k) n) → Calls Tryz.prog 27 #[.pointer (some ⟨w1.heap.size, 0, none⟩), .int .i64 k, .agg (qA d)] W fun e w' => e = .returned (.tuple #[]) ∧ Bd 59 [] w' (w.heap.size + 2) w1.heap.size (tk s k (wk (w0 s k) n)) ∧ Below (w.heap.size + 2) W w') := fun W d b G o D => by
        have o1 := HXo.out.out
        have o2 := HXo.out.sto
        have o3 := HXn.out
        have o4 := HFW.out.1
        have o5 := HFW.out.2
        exact (Take_any (B.of G) HFs.out.len c4 D o (fun q hq => by have := HXo.out.bd q hq; omega) (by omega) (by omega) (by omega) hk).mono fun e w' h => ⟨h.1, h.2.1, h.2.2.below⟩
      have HFN : Hid (Few (tk s k (wk (w0 s k) n)) (400 * (j + 1))) := by
        have := tk_few (k := k) HFW.out HXo.out (n := 400) (by have := HXn.out; omega)
        unfold Hid
        rw [show 400 * (j + 1) = 400 * j + 400 by omega]
        exact this
      clear HX B
      generalize wk (w0 s k) n = X at *
      have hlw : b' < wr.heap.size := Nat.lt_of_lt_of_le hb' HGW.out.size
      go_wp2_with fail
      go_region_with (first
        | (go_at_call 28; refine (HWk.out _ (by repeat (first | exact Gr.refl _ | refine Gr.drew ?_ | refine Gr.alloc ?_ _))).mono ?_; rintro e w2 ⟨d, rfl, od, D, G2⟩; have HOD : Hid d.h.Ok := od; have HD : Hid (∃ b, Dq w2 b d X) := ⟨_, D⟩; have HG2 : Hid (Gr wr w2) := Gr.trans (by repeat (first | exact Gr.refl wr | refine Gr.drew ?_ | refine Gr.alloc ?_ _)) G2; have y0 : w2.cell? ⟨wr.heap.size, 0, none⟩ = some (.int .i64 k) := (G2.cell _ (by simp)).trans (by simp); clear od D G2)
        | (go_at_call 27; obtain ⟨b2, D2⟩ := HD.out; refine (HTk.out _ d b2 (by repeat (first | exact HG2.out | refine Gr.drew ?_)) HOD.out (D2.gr (by repeat (first | exact Gr.refl _ | refine Gr.drew ?_)))).mono ?_; rintro e w3 ⟨rfl, B3, L3⟩; have HB3 : Hid (Bd 59 [] w3 (w.heap.size + 2) w1.heap.size (tk s k X)) := B3; have HL3 : Hid (Below (w.heap.size + 2) w2 w3) := Below.trans (by repeat (first | exact Below.refl _ _ | refine Below.drew ?_)) L3; clear B3 L3 D2))
      all_goals
        go_wp2_with fail
        go_roundw
        case rel => exact ⟨j + 1, by omega, by go_num, by rw [HNX.out]; exact HB3.out, by rw [HNX.out]; exact HFN.out, Below.trans HL.out (Below.trans (Below.mono HG2.out (by have := HL.out.size; omega)) HL3.out)⟩
        case measure => simp [intOf]; omega
    · have ej : j = pn := by omega
      have HE : Hid (play ⟨hs, m, [], 0⟩ ((nums ps).take j) = play ⟨hs, m, [], 0⟩ (nums ps)) := by unfold Hid; rw [ej, List.take_of_length_le (by unfold nums; rw [List.length_map, HPL.out]; exact Nat.le_refl _)]
      have HFs : Hid (Fit (play ⟨hs, m, [], 0⟩ (nums ps)) hn mn) := play_fit _ (fun q hq => by
        obtain ⟨r, hr, rfl⟩ := List.mem_map.1 hq
        have := HPK.out r hr
        show r.1.toNat < hn
        omega) HF0.out
      obtain ⟨Mv, gh', hc', Ov, B⟩ := HB.out
      rw [HE.out] at B
      generalize hS : play ⟨hs, m, [], 0⟩ (nums ps) = s at *
      have HSS : Hid (play ⟨hs, m, [], 0⟩ (nums ps) = s) := hS
      clear hS
      obtain ⟨va, vc, rfl, _⟩ := B.mem.mem
      obtain ⟨oa, oc, rfl⟩ := (owns_cells B.out).2.2
      have HBF : Hid (Bw 59 [] wr (w.heap.size + 2) w1.heap.size (.slice va s.m.length vc) gh' hc' (.slice oa s.out.length oc) s) := B
      have HMs : Hid (s.m.length = mn) := HFs.out.mem
      have HHs : Hid (s.hs.length = hn) := HFs.out.len
      have HBk : Hid (wr.heap[w1.heap.size]? = some (.cells #[.slice va mn vc, .slice (some ⟨gh', 0, none⟩) hn hc', .slice oa s.out.length oc, .int .i64 s.steps] 59 (0, 0))) := by have := B.blk; rw [HMs.out, HHs.out] at this; exact this
      have HSr : Hid (wr.heap[w.heap.size + 1]? = some (.cells #[.slice none 0 0, .slice none 0 0, .slice none 0 0, .int .i64 0] 32 (0, 0))) := (HL.out.block _ (by omega)).trans HS1.out
      have HJ : Hid ((Tryz.prog.info? 32).map (·.size) = some 4) := iS
      clear B HE HB HFW HF0 ej
      go_wp2_with (first
        | (refine wpList_load_row rfl 32 _ rfl w1.heap.size rfl 59 #[.slice va mn vc, .slice (some ⟨gh', 0, none⟩) hn hc', .slice oa s.out.length oc, .int .i64 s.steps] (0, 0) _ ?yy1 Tryz.underlying32 rfl HJ.out ?_; (case yy1 => exact HBk.out))
        | (refine wpList_store_row rfl 32 _ _ rfl (w.heap.size + 1) #[.slice va mn vc, .slice (some ⟨gh', 0, none⟩) hn hc', .slice oa s.out.length oc, .int .i64 s.steps] rfl rfl 32 #[.slice none 0 0, .slice none 0 0, .slice none 0 0, .int .i64 0] ?yy2 HJ.out rfl (one_bd _ _ _ _ _ _ _ _ _ _) ?_; (case yy2 => exact HSr.out)))
      have ne : ∀ (t : Nat) (k : Nat) (q : Array Value) (f : Nat × Nat), t ≠ 32 → wr.heap[k]? = some (.cells q t f) → (wr.setRow (w.heap.size + 1) #[.slice va mn vc, .slice (some ⟨gh', 0, none⟩) hn hc', .slice oa s.out.length oc, .int .i64 s.steps]).heap[k]? = wr.heap[k]? := fun t k q f ht hk => setRow_other _ _ _ _ (ne_of_types hk HSr.out ht)
      refine bodyPost_ret (v := .tuple #[.agg #[.slice va mn vc, .slice (some ⟨gh', 0, none⟩) hn hc', .slice oa s.out.length oc, .int .i64 s.steps], .int .i64 0]) (Hr.results_cell_tmp' Tryz.results15 _ _ _ _ _ (0, 0) _ _ rfl rfl (setRow_heap _ _ _ _ _ (0, 0) HSr.out) Tryz.underlying32 rfl HJ.out) rfl ⟨_, rfl, ?_, ?_⟩
      · rw [HSS.out]
        refine shn_own (base := w.heap.size + 2) ?_ HMs.out (HBF.out.row.to fun k o f hk => ne _ k o f (by decide) hk) HHs.out (owns_to HBF.out.out fun k o f hk => ne _ k o f (by decide) hk)
        rw [← HMs.out]
        have := HBF.out.mem.to (w' := wr.setRow (w.heap.size + 1) #[.slice va mn vc, .slice (some ⟨gh', 0, none⟩) hn hc', .slice oa s.out.length oc, .int .i64 s.steps]) fun k o f hk => ne _ k o f (by decide) hk
        rw [← HMs.out] at this
        exact this
      · exact gr_setRow HGW.out (Nat.le_succ _) _
end Go.Proofs.YtchllaeembmioaaGreatDoor.Mc
namespace Go.Proofs.YtchllaeembmioaaGreatDoor.Mc
open Go.ChangeShapes Go.WideShapes Go.ChangeAt Go.RowKit Mm Hh Hc

theorem neq_hart {h : Hv} (o : h.Ok) (w : World) : (binOp .neq 51 (.agg (hA h)) (.agg (hA h))).run Tryz.prog w = .ok (.bool false) w := by
  have e := eql_hart o w
  have e1 : binOp .eql 51 (.agg (hA h)) (.agg (hA h)) = (do pure (.bool (← Op.equal 51 (.agg (hA h)) (.agg (hA h))))) := rfl
  have e2 : binOp .neq 51 (.agg (hA h)) (.agg (hA h)) = (do pure (.bool (!(← Op.equal 51 (.agg (hA h)) (.agg (hA h)))))) := rfl
  rw [e1, Sem.run_bind] at e
  rw [e2, Sem.run_bind]
  generalize (Op.equal 51 (.agg (hA h)) (.agg (hA h))).run Tryz.prog w = r at e ⊢
  cases r with
  | ok v w' =>
    simp only [Result.andThen_ok, Sem.run_pure, Result.ok.injEq, Value.bool.injEq] at e ⊢
    obtain ⟨rfl, rfl⟩ := e
    exact ⟨rfl, rfl⟩
  | _ => simp [Result.andThen] at e
theorem yieldsIf_neq {P : Program} {ops : Array Oper} {S : World → Prop} {o : Oper} {a : Act} (hw : Region.wanted o (yielded ops a.tmps) = true) (t t' : TypeId) (x y : Operand) (ho : o.op = .binOp .neq t x y t') (A B : Array Value) (hx : a.eval x = .agg A) (hy : a.eval y = .agg B) (hg : P.eqGuardType P.depth t = false)
    {v : Value} (h : ∀ w, (binOp .neq t (.agg A) (.agg B)).run P w = .ok v w) : YieldsIf P ops S o v a :=
  .inl ⟨hw, fun w _ => by
    unfold execOp
    simp only [ho, hx, hy, Sem.run_bind, run_eqGuard_agg w _ _ _ _ _ _ hg, h, Result.andThen_ok]
    rfl⟩
def Shw (w : World) (v : Value) (c mn : Nat) (S : Sh) : Prop := ∃ ma mc ha hc oa oc, v = .agg #[.slice ma mn mc, .slice ha c hc, .slice oa S.out.length oc, .int .i64 S.steps] ∧ Mem w ma mn S.m ∧ Hs w ha c S.hs ∧ Wm w oa S.out.length S.out
theorem Shn.w {w : World} {v : Value} {c mn : Nat} {S : Sh} (h : Shn w v c mn S) : Shw w v c mn S := by
  obtain ⟨ma, mc, ha, hc, oa, oc, e, h1, _, h3, h4, _⟩ := h
  exact ⟨ma, mc, ha, hc, oa, oc, e, h1, h3, h4⟩
theorem Shw.of {w w' : World} {v : Value} {c mn : Nat} {S : Sh} (h : Shw w v c mn S) (G : Gr w w') : Shw w' v c mn S := by
  obtain ⟨ma, mc, ha, hc, oa, oc, e, h1, h3, h4⟩ := h
  exact ⟨ma, mc, ha, hc, oa, oc, e, h1.of G, h3.of G, h4.of G⟩
theorem Same_w {w : World} {a b : Value} {c mn : Nat} {S : Sh} (A : Shw w a c mn S) (B : Shw w b c mn S) (ho : S.out.length ≤ 1000000) (hc4 : c ≤ 4) :
    Calls Tryz.prog 9 #[a, b] w fun e w' => e = .returned (.bool true) ∧ Gr w w' := by
  obtain ⟨a1, c1, a2, c2, a3, c3, rfl, A1, A2, A3⟩ := A
  obtain ⟨b1, d1, b2, d2, b3, d3, rfl, B1, B2, B3⟩ := B
  have HBy : Hid (∀ W : World, Gr w W → Calls Tryz.prog 20 #[.slice a1 mn c1, .slice b1 mn d1] W fun e w' => e = .returned (.bool true) ∧ Gr W w') := fun W G =>
    (Mr.Bytes_any c1 d1 (A1.of G) (B1.of G)).mono fun e w' ⟨h1, h2⟩ => ⟨by rw [h1]; simp, by rw [h2]; exact Gr.refl _⟩
  have HWo : Hid (∀ W : World, Gr w W → Calls Tryz.prog 21 #[.slice a3 S.out.length c3, .slice b3 S.out.length d3] W fun e w' => e = .returned (.bool true) ∧ Gr W w') := fun W G => Words_same c3 d3 ho (A3.of G) (B3.of G)
  have HA2 : Hid (Hs w a2 c S.hs) := A2
  have HB2 : Hid (Hs w b2 c S.hs) := B2
  have HL : Hid (S.hs.length = c) := A2.len
  clear A1 A2 A3 B1 B2 B3
  generalize S.out.length = on at *
  generalize S.steps = st at *
  generalize S.hs = hs at *
  have en : ((st : Int) != (st : Int)) = false := by simp
  have en2 : ((c : Int) != (c : Int)) = false := by simp
  go_enter Tryz.func9, Tryz.ntmps9
  go_wp2_with fail
  refine (HBy.out _ (((Gr.refl _).alloc _).alloc _)).mono ?_
  rintro e w1 ⟨rfl, G1⟩
  obtain ⟨hb0, hb1⟩ := two_of G1
  have HX0 : Hid (w1.heap[w.heap.size]? = some (.cells #[.slice a1 mn c1, .slice a2 c c2, .slice a3 on c3, .int .i64 st] 32 (0, 0))) := hb0
  have HX1 : Hid (w1.heap[w.heap.size + 1]? = some (.cells #[.slice b1 mn d1, .slice b2 c d2, .slice b3 on d3, .int .i64 st] 32 (0, 0))) := hb1
  have HG1 : Hid (Gr w w1) := (((Gr.refl _).alloc _).alloc _).trans G1
  have x1 : w1.cell? ⟨w.heap.size, 1, none⟩ = some (.slice a2 c c2) := cell_of_row _ _ _ _ _ _ hb0
  have x2 : w1.cell? ⟨w.heap.size, 2, none⟩ = some (.slice a3 on c3) := cell_of_row _ _ _ _ _ _ hb0
  have x4 : w1.cell? ⟨w.heap.size + 1, 1, none⟩ = some (.slice b2 c d2) := cell_of_row _ _ _ _ _ _ hb1
  have x5 : w1.cell? ⟨w.heap.size + 1, 2, none⟩ = some (.slice b3 on d3) := cell_of_row _ _ _ _ _ _ hb1
  clear G1 hb0 hb1 HBy
  go_wp2_with fail
  refine (HWo.out _ HG1.out).mono ?_
  rintro e w2 ⟨rfl, G2⟩
  have HG2 : Hid (Gr w w2) := HG1.out.trans G2
  have HY0 : Hid (w2.heap[w.heap.size]? = some (.cells #[.slice a1 mn c1, .slice a2 c c2, .slice a3 on c3, .int .i64 st] 32 (0, 0))) := Hr.heap_of_gr G2 HX0.out
  have HY1 : Hid (w2.heap[w.heap.size + 1]? = some (.cells #[.slice b1 mn d1, .slice b2 c d2, .slice b3 on d3, .int .i64 st] 32 (0, 0))) := Hr.heap_of_gr G2 HX1.out
  have y3 : w2.cell? ⟨w.heap.size, 3, none⟩ = some (.int .i64 st) := cell_of_row _ _ _ _ _ _ HY0.out
  have y7 : w2.cell? ⟨w.heap.size + 1, 3, none⟩ = some (.int .i64 st) := cell_of_row _ _ _ _ _ _ HY1.out
  clear G2 x1 x2 x4 x5 HX0 HX1 HWo HG1
  go_wp2_with fail
  go_loopw [5] (fun i wr => ∃ k : Nat, k ≤ c ∧ i = .int .i64 k ∧ Gr w2 wr) (fun i _ => c - (intOf i).toNat)
  case atStart => exact ⟨0, Nat.zero_le _, rfl, Gr.refl _⟩
  case round =>
    obtain ⟨k, hk, rfl, G⟩ := hrel
    have HG : Hid (Gr w2 wr) := G
    have z1 : wr.cell? ⟨w.heap.size, 1, none⟩ = some (.slice a2 c c2) := cell_of_row _ _ _ _ _ _ (Hr.heap_of_gr G HY0.out)
    have z4 : wr.cell? ⟨w.heap.size + 1, 1, none⟩ = some (.slice b2 c d2) := cell_of_row _ _ _ _ _ _ (Hr.heap_of_gr G HY1.out)
    clear G y3 y7
    by_cases hlt : k < c
    · obtain ⟨h, hh⟩ : ∃ h, hs[k]? = some h := ⟨_, List.getElem?_eq_getElem (by rw [HL.out]; exact hlt)⟩
      have okh := HA2.out.ok h (List.mem_of_getElem? hh)
      obtain ⟨p1, o1, rfl, hp1, r1⟩ := HA2.out.spot (by omega)
      obtain ⟨p2, o2, rfl, hp2, r2⟩ := HB2.out.spot (by omega)
      have R1 : Hid (wr.rangeAt p1 (o1 + k * 37) (hL h)) := fun j v hv => ((HG2.out.trans HG.out).cell _ (by exact hp1)).trans (r1 k h hh j v hv)
      have R2 : Hid (wr.rangeAt p2 (o2 + k * 37) (hL h)) := fun j v hv => ((HG2.out.trans HG.out).cell _ (by exact hp2)).trans (r2 k h hh j v hv)
      have HLL : Hid ((hL h).length = 37) := hL_len okh
      have HNQ : Hid (∀ W : World, (binOp .neq 51 (.agg (hL h).toArray) (.agg (hL h).toArray)).run Tryz.prog W = .ok (.bool false) W) := fun W => neq_hart okh W
      clear hh okh r1 r2 en en2
      go_wp2_with fail
      refine wp_region_held_drew (S := fun W => W.cell? ⟨w.heap.size, 1, none⟩ = some (.slice (some ⟨p1, o1, none⟩) c c2) ∧ W.cell? ⟨w.heap.size + 1, 1, none⟩ = some (.slice (some ⟨p2, o2, none⟩) c d2) ∧ W.rangeAt p1 (o1 + k * 37) (hL h) ∧ W.rangeAt p2 (o2 + k * 37) (hL h)) (by kernel_rfl) ?_ (fun hHeld => ?_)
      · exact ⟨z1, z4, R1.out, R2.out⟩
      have HS0 : Hid _ := hHeld
      clear hHeld
      refine wpAnyH_take (i := 0) (v := .pointer (some ⟨w.heap.size, 0, none⟩)) rfl (by kernel_rfl) (by kernel_rfl) (by kernel_rfl) (fun _ _ _ h => h) (Or.inl ⟨by rfl, fun W hW => by obtain ⟨y0, y1, y2, y3⟩ := hW; go_simp⟩) HS0.out ?_
      simp only [List.getElem_toArray, List.getElem_cons_succ, List.getElem_cons_zero, Act.put, List.setIfInBounds_toArray, List.set_cons_zero, List.set_cons_succ]
      refine wpAnyH_take (i := 1) (v := .pointer (some ⟨w.heap.size, 1, none⟩)) rfl (by kernel_rfl) (by kernel_rfl) (by kernel_rfl) (fun _ _ _ h => h) (Or.inl ⟨by rfl, fun W hW => by obtain ⟨y0, y1, y2, y3⟩ := hW; go_simp⟩) HS0.out ?_
      simp only [List.getElem_toArray, List.getElem_cons_succ, List.getElem_cons_zero, Act.put, List.setIfInBounds_toArray, List.set_cons_zero, List.set_cons_succ]
      refine wpAnyH_take (i := 2) (v := .slice (some ⟨p1, o1, none⟩) c c2) rfl (by kernel_rfl) (by kernel_rfl) (by kernel_rfl) (fun _ _ _ h => h) (Or.inl ⟨by rfl, fun W hW => by obtain ⟨y0, y1, y2, y3⟩ := hW; go_simp⟩) HS0.out ?_
      simp only [List.getElem_toArray, List.getElem_cons_succ, List.getElem_cons_zero, Act.put, List.setIfInBounds_toArray, List.set_cons_zero, List.set_cons_succ]
      refine wpAnyH_take (i := 3) (v := .int .i64 k) rfl (by kernel_rfl) (by kernel_rfl) (by kernel_rfl) (fun _ _ _ h => h) (Or.inl ⟨by rfl, fun W hW => by obtain ⟨y0, y1, y2, y3⟩ := hW; go_simp⟩) HS0.out ?_
      simp only [List.getElem_toArray, List.getElem_cons_succ, List.getElem_cons_zero, Act.put, List.setIfInBounds_toArray, List.set_cons_zero, List.set_cons_succ]
      refine wpAnyH_take (i := 4) (v := .pointer (some ⟨p1, o1 + k * 37, none⟩)) rfl (by kernel_rfl) (by kernel_rfl) (by kernel_rfl) (fun _ _ _ h => h) (Or.inl ⟨by rfl, fun W hW => by obtain ⟨y0, y1, y2, y3⟩ := hW; go_simp⟩) HS0.out ?_
      simp only [List.getElem_toArray, List.getElem_cons_succ, List.getElem_cons_zero, Act.put, List.setIfInBounds_toArray, List.set_cons_zero, List.set_cons_succ]
      refine wpAnyH_take (i := 5) (v := .agg (hL h).toArray) rfl (by kernel_rfl) (by kernel_rfl) (by kernel_rfl) (fun _ _ _ h => h) ?hy5 HS0.out ?_
      case hy5 => exact yieldsIf_load_mid (by rfl) 51 (.tmp 52) rfl p1 (o1 + k * 37) (by simp [Act.eval]) (hL h) _ (fun W hW => hW.2.2.1) Tryz.underlying51 rfl (by rw [HLL.out]; exact iH)
      simp only [List.getElem_toArray, List.getElem_cons_succ, List.getElem_cons_zero, Act.put, List.setIfInBounds_toArray, List.set_cons_zero, List.set_cons_succ]
      refine wpAnyH_take (i := 6) (v := .pointer (some ⟨w.heap.size + 1, 0, none⟩)) rfl (by kernel_rfl) (by kernel_rfl) (by kernel_rfl) (fun _ _ _ h => h) (Or.inl ⟨by rfl, fun W hW => by obtain ⟨y0, y1, y2, y3⟩ := hW; go_simp⟩) HS0.out ?_
      simp only [List.getElem_toArray, List.getElem_cons_succ, List.getElem_cons_zero, Act.put, List.setIfInBounds_toArray, List.set_cons_zero, List.set_cons_succ]
      refine wpAnyH_take (i := 7) (v := .pointer (some ⟨w.heap.size + 1, 1, none⟩)) rfl (by kernel_rfl) (by kernel_rfl) (by kernel_rfl) (fun _ _ _ h => h) (Or.inl ⟨by rfl, fun W hW => by obtain ⟨y0, y1, y2, y3⟩ := hW; go_simp⟩) HS0.out ?_
      simp only [List.getElem_toArray, List.getElem_cons_succ, List.getElem_cons_zero, Act.put, List.setIfInBounds_toArray, List.set_cons_zero, List.set_cons_succ]
      refine wpAnyH_take (i := 8) (v := .slice (some ⟨p2, o2, none⟩) c d2) rfl (by kernel_rfl) (by kernel_rfl) (by kernel_rfl) (fun _ _ _ h => h) (Or.inl ⟨by rfl, fun W hW => by obtain ⟨y0, y1, y2, y3⟩ := hW; go_simp⟩) HS0.out ?_
      simp only [List.getElem_toArray, List.getElem_cons_succ, List.getElem_cons_zero, Act.put, List.setIfInBounds_toArray, List.set_cons_zero, List.set_cons_succ]
      refine wpAnyH_take (i := 9) (v := .int .i64 k) rfl (by kernel_rfl) (by kernel_rfl) (by kernel_rfl) (fun _ _ _ h => h) (Or.inl ⟨by rfl, fun W hW => by obtain ⟨y0, y1, y2, y3⟩ := hW; go_simp⟩) HS0.out ?_
      simp only [List.getElem_toArray, List.getElem_cons_succ, List.getElem_cons_zero, Act.put, List.setIfInBounds_toArray, List.set_cons_zero, List.set_cons_succ]
      refine wpAnyH_take (i := 10) (v := .pointer (some ⟨p2, o2 + k * 37, none⟩)) rfl (by kernel_rfl) (by kernel_rfl) (by kernel_rfl) (fun _ _ _ h => h) (Or.inl ⟨by rfl, fun W hW => by obtain ⟨y0, y1, y2, y3⟩ := hW; go_simp⟩) HS0.out ?_
      simp only [List.getElem_toArray, List.getElem_cons_succ, List.getElem_cons_zero, Act.put, List.setIfInBounds_toArray, List.set_cons_zero, List.set_cons_succ]
      refine wpAnyH_take (i := 11) (v := .agg (hL h).toArray) rfl (by kernel_rfl) (by kernel_rfl) (by kernel_rfl) (fun _ _ _ h => h) ?hy11 HS0.out ?_
      case hy11 => exact yieldsIf_load_mid (by rfl) 51 (.tmp 58) rfl p2 (o2 + k * 37) (by simp [Act.eval]) (hL h) _ (fun W hW => hW.2.2.2) Tryz.underlying51 rfl (by rw [HLL.out]; exact iH)
      simp only [List.getElem_toArray, List.getElem_cons_succ, List.getElem_cons_zero, Act.put, List.setIfInBounds_toArray, List.set_cons_zero, List.set_cons_succ]
      refine wpAnyH_take (i := 12) (v := .bool false) rfl (by kernel_rfl) (by kernel_rfl) (by kernel_rfl) (fun _ _ _ h => h) ?hneq HS0.out ?_
      case hneq => exact yieldsIf_neq (by rfl) 51 51 (.tmp 53) (.tmp 59) rfl (hL h).toArray (hL h).toArray (by simp [Act.eval]) (by simp [Act.eval]) (by kernel_rfl) HNQ.out
      simp only [List.getElem_toArray, List.getElem_cons_succ, List.getElem_cons_zero, Act.put, List.setIfInBounds_toArray, List.set_cons_zero, List.set_cons_succ]
      refine wpAnyH_done (by kernel_rfl) ?_ _
      clear HS0 HNQ R1 R2 z1 z4
      go_wp2_with fail
      go_roundw
      case rel => exact ⟨k + 1, by omega, by go_num, Gr.drew HG.out⟩
      case measure => simp [intOf]; omega
    · go_wp2_with fail
      go_ret
      exact ⟨rfl, HG2.out.trans HG.out⟩
end Go.Proofs.YtchllaeembmioaaGreatDoor.Mc
namespace Go.Proofs.YtchllaeembmioaaGreatDoor.Mc
open Go.ChangeShapes Go.WideShapes Go.ChangeAt Go.RowKit Mm Hh Hc

theorem few_play : ∀ (sc : List (Nat × Nat)) {s : Sh} {c n t : Nat}, Fit s c n → Few s t → (∀ p ∈ sc, p.1 < c ∧ p.2 ≤ 400) → Few (play s sc) (t + 400 * sc.length)
  | [], s, c, n, t, f, w, _ => w
  | p :: r, s, c, n, t, f, w, h => by
    have hp := h p (by simp)
    have hk : p.1 < s.hs.length := by rw [f.len]; exact hp.1
    rw [play_cons]
    have e := runs_wk hk p.2
    have o := wk_ok p.2 (w0_ok f hp.1)
    have z : (w0 s p.1).n = 0 := rfl
    have w2 : Few (runs s p.1 p.2) (t + 400) := by rw [e]; exact tk_few w o.1 (by omega)
    have := few_play r (runs_fit hp.1 p.2 f) w2 (fun q hq => h q (by simp [hq]))
    rw [List.length_cons, show t + 400 * (r.length + 1) = t + 400 + 400 * r.length by omega]
    exact this
theorem few_nums {m : List UInt8} {hs : List Hv} {ps : List (Int × Int)} (hw : wrong m hs ps = 0) (ok : ∀ h ∈ hs, h.Ok) : Few (play ⟨hs, m, [], 0⟩ (nums ps)) 120000 ∧ Fit (play ⟨hs, m, [], 0⟩ (nums ps)) hs.length m.length := by
  obtain ⟨_, _, _, h4, h5, h6⟩ := wrong_ok hw
  have f : Fit ⟨hs, m, [], 0⟩ hs.length m.length := ⟨rfl, rfl, fun h hm => ⟨ok h hm, h4 h hm⟩⟩
  have hq : ∀ p ∈ nums ps, p.1 < hs.length ∧ p.2 ≤ 400 := fun p hp => by
    obtain ⟨r, hr, rfl⟩ := List.mem_map.1 hp
    have := h6 r hr
    show r.1.toNat < _ ∧ r.2.toNat ≤ _
    omega
  have := few_play (nums ps) (t := 0) f ⟨Nat.le_refl _, Nat.le_refl _⟩ hq
  have hl : (nums ps).length ≤ 300 := by unfold nums; rw [List.length_map]; exact h5
  exact ⟨⟨this.1, by have := this.2; omega⟩, play_fit _ (fun p hp => (hq p hp).1) f⟩
end Go.Proofs.YtchllaeembmioaaGreatDoor.Mc
namespace Go.Proofs.YtchllaeembmioaaGreatDoor.Mc
open Go.ChangeShapes Go.WideShapes Go.ChangeAt Go.RowKit Mm Hh Hc

end Go.Proofs.YtchllaeembmioaaGreatDoor.Mc
namespace Go.Proofs.YtchllaeembmioaaGreatDoor.Hr
open Go.ChangeShapes Go.WideShapes Go.ChangeAt Go.RowKit Mm Hh

end Go.Proofs.YtchllaeembmioaaGreatDoor.Hr
namespace Go.Proofs.YtchllaeembmioaaGreatDoor.Hr
open Go.ChangeShapes Go.WideShapes Go.ChangeAt Go.RowKit Mm Hh

end Go.Proofs.YtchllaeembmioaaGreatDoor.Hr
namespace Go.Proofs.YtchllaeembmioaaGreatDoor.Hr
open Go.ChangeShapes Go.WideShapes Go.ChangeAt Go.RowKit Mm Hh

end Go.Proofs.YtchllaeembmioaaGreatDoor.Hr
namespace Go.Proofs.YtchllaeembmioaaGreatDoor.Hr
open Go.ChangeShapes Go.WideShapes Go.ChangeAt Go.RowKit Mm Hh

end Go.Proofs.YtchllaeembmioaaGreatDoor.Hr
namespace Go.Proofs.YtchllaeembmioaaGreatDoor.Hr
open Go.ChangeShapes Go.WideShapes Go.ChangeAt Go.RowKit Mm Hh

end Go.Proofs.YtchllaeembmioaaGreatDoor.Hr
namespace Go.Proofs.YtchllaeembmioaaGreatDoor.Hr
open Go.ChangeShapes Go.WideShapes Go.ChangeAt Go.RowKit Mm Hh

end Go.Proofs.YtchllaeembmioaaGreatDoor.Hr
namespace Go.Proofs.YtchllaeembmioaaGreatDoor.Hr
open Go.ChangeShapes Go.WideShapes Go.ChangeAt Go.RowKit Mm Hh

end Go.Proofs.YtchllaeembmioaaGreatDoor.Hr
namespace Go.Proofs.YtchllaeembmioaaGreatDoor.Hr
open Go.ChangeShapes Go.WideShapes Go.ChangeAt Go.RowKit Mm Hh

end Go.Proofs.YtchllaeembmioaaGreatDoor.Hr
namespace Go.Proofs.YtchllaeembmioaaGreatDoor.Hr
open Go.ChangeShapes Go.WideShapes Go.ChangeAt Go.RowKit Mm Hh

end Go.Proofs.YtchllaeembmioaaGreatDoor.Hr
namespace Go.Proofs.YtchllaeembmioaaGreatDoor.Hr
open Go.ChangeShapes Go.WideShapes Go.ChangeAt Go.RowKit Mm Hh

end Go.Proofs.YtchllaeembmioaaGreatDoor.Hr
namespace Go.Proofs.YtchllaeembmioaaGreatDoor.Mc
open Go.ChangeShapes Go.WideShapes Go.ChangeAt Go.RowKit Mm Hh Hc

section
variable {P : Program} {w : World} {base e size bytes n m : Nat} {i : TypeInfo} {z : Value} {t : TypeId}
end
end Go.Proofs.YtchllaeembmioaaGreatDoor.Mc
namespace Go.Proofs.YtchllaeembmioaaGreatDoor.Mc
open Go.ChangeShapes Go.WideShapes Go.ChangeAt Go.RowKit Mm Hh Hc

end Go.Proofs.YtchllaeembmioaaGreatDoor.Mc
namespace Go.Proofs.YtchllaeembmioaaGreatDoor.Kc
open Go.ChangeShapes Go.WideShapes Go.ChangeAt Go.RowKit Mm Ts

end Go.Proofs.YtchllaeembmioaaGreatDoor.Kc
namespace Go.Proofs.YtchllaeembmioaaGreatDoor.machineRuns
open Go.ChangeShapes Go.WideShapes Go.ChangeAt Go.RowKit Mm Hh Hc Mc

theorem zeros (w : World) : Shw w (.agg #[.slice none 0 0, .slice none 0 0, .slice none 0 0, .int .i64 0]) 0 0 ⟨[], [], [], 0⟩ :=
  ⟨none, 0, none, 0, none, 0, rfl, ⟨rfl, fun _ => rfl, fun ad e => by cases e⟩, ⟨rfl, fun h hm => (by cases hm), fun h => absurd h (by omega)⟩, ⟨rfl, fun _ => rfl, fun ad e => by cases e⟩⟩

end Go.Proofs.YtchllaeembmioaaGreatDoor.machineRuns
namespace Go.Proofs.YtchllaeembmioaaGreatDoor.En
open Go.ChangeShapes Go.WideShapes Go.ChangeAt Go.RowKit Mm Hh Hc Mc

def ErNo (w : World) (ma ha pa : Option Addr) (mn mc hn hc pn pc : Nat) (room E : Int) : Prop :=
  ∀ W : World, Gr w W → Calls Tryz.prog 8 #[.agg #[.slice ma mn mc, .slice ha hn hc], .slice pa pn pc, .int .i64 room] W fun e w' => ∃ v a c, e = .returned (.tuple #[v, .agg #[.int .i64 0, .slice a 0 c, .int .i64 0, .int .i64 0], .int .i64 E]) ∧ Shw w' v 0 0 ⟨[], [], [], 0⟩ ∧ Gr W w'
def ErYes (w : World) (ma ha pa : Option Addr) (mn mc hn hc pn pc : Nat) (room : Int) (S : Sh) (F : List Kc.Bv → Int → Int → Prop) : Prop :=
  ∀ W : World, Gr w W → Calls Tryz.prog 8 #[.agg #[.slice ma mn mc, .slice ha hn hc], .slice pa pn pc, .int .i64 room] W fun e w' => ∃ v a m c pu sl L, e = .returned (.tuple #[v, .agg #[.int .i64 room, .slice a m c, .int .i64 pu, .int .i64 sl], .int .i64 0]) ∧ Shw w' v hn mn S ∧ (Kc.Bs w' a m L ∧ m ≤ c ∧ F L pu sl) ∧ Gr W w'
end Go.Proofs.YtchllaeembmioaaGreatDoor.En
