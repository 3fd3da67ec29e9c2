/-
  Uj: texts of ours that lie in one file.
-/
import Derived.Test.YtphklaefhpoimacDoorM10
import Derived.Test.YtphklaefhpoimacDoorM06
/-
  What ferrybridgeref12.Undos answers: what each step of a run has changed.
-/
namespace Go.Proofs.YtphklaefhpoimacDoor.Ud
open Go.ChangeShapes Go.WideShapes Go.ChangeAt Go.RowKit Mm Hh Hc Mc
set_option linter.unusedVariables false
set_option linter.unusedSimpArgs false

theorem field_shown {a b : Option Addr} {n k c d : Nat} {e f : Value} (w : World) : (Instr.field 40 (.agg #[.slice a n c, .slice b k d, e, f]) 0).run Tryd.prog w = .ok (.agg #[.slice a n c, .slice b k d]) w := by kernel_rfl
theorem wpList_field {P : Program} {ops : Array Oper} {rest : List Oper} {o : Oper} {a : Act} {w : World} {Q : Exit → Act → World → Prop} (hg : o.guard = none) (ty : TypeId) (x : Operand) (n : Nat) (ho : o.op = .field ty x n) (A : Value) (hx : a.eval x = A) {v : Value} (hr : ∀ w, (Instr.field ty A n).run P w = .ok v w)
    (h : wpList P ops Q rest (a.put o.dst v) w) : wpList P ops Q (o :: rest) a w :=
  wpList_plain hg fun K hK => by
    unfold Oper.wp
    simp [execOp, ho, hx, hr, Result.andThen]
    exact hK _ _ h
set_option maxHeartbeats 8000000 in
set_option maxRecDepth 100000 in
theorem Undos_any {ma ha pa : Option Addr} {hn pn : Nat} (mc hc pc : Nat) {m : List UInt8} {hs : List Hv} {ps : List (Int × Int)} {w : World} (mn : Nat) (M : Mem w ma mn m) (H : Hs w ha hn hs) (P : Ps w pa pn ps) (hy : wrong m hs ps = 0) :
    Calls Tryd.prog 15 #[.agg #[.slice ma mn mc, .slice ha hn hc], .slice pa pn pc] w fun e w' => ∃ ua un uc, e = .returned (.slice ua un uc) ∧ Us w' ua un (uns ⟨hs, m, [], 0⟩ (trP ⟨hs, m, [], 0⟩ (nums ps))) ∧ Gr w w' := by
  obtain ⟨b1, b2, b4, hmay, b3, hpk⟩ := wrong_ok hy
  have hml := M.len
  have hhl := H.len
  have hpl := P.len
  rw [hhl] at hpk
  have HP0 : Hid (∀ W : World, Gr w W → Calls Tryd.prog 14 #[.agg #[.slice ma mn mc, .slice ha hn hc], .slice none 0 0] W fun e w' => ∃ v, e = .returned v ∧ Shf W.heap.size w' v hn mn ⟨hs, m, [], 0⟩ ∧ Gr W w') := fun W G =>
    Play_w (ps := []) mc hc 0 mn (M.of G) (H.of G) ⟨rfl, fun h => absurd h (by omega)⟩ (wrong_zero hy (by simp) (by simp))
  have HF0 : Hid (Fit ⟨hs, m, [], 0⟩ hn mn) := ⟨hhl, hml, fun h hm => ⟨H.ok h hm, hmay h hm⟩⟩
  have HP : Hid (Ps w pa pn ps) := P
  have HPK : Hid (∀ p ∈ ps, 0 ≤ p.1 ∧ p.1 < hn ∧ 0 ≤ p.2 ∧ p.2 ≤ 400) := hpk
  have p4 : pn ≤ 300 := by omega
  have m4 : mn ≤ 4096 := by omega
  have c4 : hn ≤ 4 := by omega
  have c0 : 0 < hn := by omega
  clear M H P hy hmay hpk hml hhl hpl b1 b2 b4 b3
  generalize (⟨hs, m, [], 0⟩ : Sh) = s0 at *
  go_enter Tryd.func15, Tryd.ntmps15
  go_wp2_with fail
  refine (HP0.out _ ((Gr.refl _).alloc _)).mono ?_
  rintro e w1 ⟨v, rfl, S1, G1⟩
  obtain ⟨s1, d1, s2, d2, s3, d3, rfl, hM1, hH1, _, hc1, _⟩ := S1
  have HM1c : Hid (∀ ad, s1 = some ad → 0 < mn → mn ≤ d1) := fun ad e h0 => (hc1 ad e h0).2
  clear hc1
  have HM1 : Hid (Mem w1 s1 mn s0.m ∧ Hs w1 s2 hn s0.hs) := ⟨hM1, hH1⟩
  have HG1 : Hid (Gr w w1) := ((Gr.refl _).alloc _).trans G1
  clear G1 hM1 hH1 HP0
  go_wp2_with (refine wpList_field rfl 40 _ 0 rfl _ rfl field_shown ?_)
  go_loopw [5, 7] (fun l i wr => ∃ k : Nat, k ≤ pn ∧ i = .int .i64 k ∧ Ju s0 w wr w1.heap.size hn mn (trP s0 ((nums ps).take k)) l ∧ (trP s0 ((nums ps).take k)).length ≤ 400 * k) (fun _ i _ => pn - (intOf i).toNat)
  case atStart =>
    have G2 : ∀ o : Obj, Gr w1 (w1.alloc o) := fun o => (Gr.refl _).alloc _
    exact ⟨0, Nat.zero_le _, rfl, ⟨⟨[], World.ownsRow_nil _ _ _ _, Ux.nil _⟩, ⟨s1, d1, s2, d2, heap_alloc_new w1 _, HM1.out.1.of (G2 _), HM1.out.2.of (G2 _), HM1c.out⟩, HG1.out.alloc _, trivial⟩, Nat.le_refl _⟩
  case round =>
    obtain ⟨i, hi, rfl, J, hTl⟩ := hrel
    have HJ : Hid _ := J
    clear J
    by_cases hlt : i < pn
    · obtain ⟨p, hp⟩ : ∃ p, ps[i]? = some p := ⟨_, List.getElem?_eq_getElem (by rw [HP.out.len]; exact hlt)⟩
      obtain ⟨z0, z1, z2, z3⟩ := HPK.out p (List.mem_of_getElem? hp)
      obtain ⟨b', o', rfl, hb', hcell'⟩ := HP.out.spot (by omega)
      have HQ : Hid (∀ W : World, Gr w W → W.cell? ⟨b', o' + i * 2, none⟩ = some (.int .i64 p.1) ∧ W.cell? ⟨b', o' + i * 2 + 1, none⟩ = some (.int .i64 p.2)) := fun W G => ⟨(G.cell _ (by exact hb')).trans (hcell' i p hp).1, (G.cell _ (by exact hb')).trans (hcell' i p hp).2⟩
      have HTK : Hid ((nums ps).take (i + 1) = (nums ps).take i ++ [(p.1.toNat, p.2.toNat)]) := nums_get hp
      clear hp hcell'
      obtain ⟨p1, p2⟩ := p
      simp only at *
      obtain ⟨k, rfl⟩ := Int.eq_ofNat_of_zero_le z0
      obtain ⟨N, rfl⟩ := Int.eq_ofNat_of_zero_le z2
      simp only [Int.toNat_natCast] at HTK
      have hk : k < hn := by omega
      have hN : N ≤ 400 := by omega
      have HNX : Hid (trP s0 ((nums ps).take (i + 1)) = trP s0 ((nums ps).take i) ++ trR (dos s0 (trP s0 ((nums ps).take i))) k N) := by
        unfold Hid
        rw [HTK.out, trP_app, ← play_dos]
        show _ ++ (trR _ k N ++ []) = _
        rw [List.append_nil]
      clear z0 z1 z2 z3 HTK
      have q0 : wr.cell? ⟨b', o' + i * 2, none⟩ = some (.int .i64 k) := (HQ.out _ HJ.out.gr).1
      have hbr : b' < wr.heap.size := Nat.lt_of_lt_of_le hb' HJ.out.gr.size
      generalize trP s0 ((nums ps).take i) = T0 at *
      go_wp2_with fail
      go_loopw [5, 9] (fun l n wq => ∃ (c : Nat) (T : List Nat), c ≤ N ∧ n = .int .i64 c ∧ T0 ++ trR (dos s0 T0) k N = T ++ trR (dos s0 T) k (N - c) ∧ Ju s0 w wq w1.heap.size hn mn T l ∧ T.length ≤ 400 * i + c) (fun _ n _ => N - (intOf n).toNat)
      case atStart => exact ⟨0, T0, Nat.zero_le _, rfl, rfl, HJ.out, by omega⟩
      case round =>
        obtain ⟨c, T, hcN, rfl, hT, J, hTl2⟩ := hrel
        have HJ2 : Hid _ := J
        have HTT : Hid (T0 ++ trR (dos s0 T0) k N = T ++ trR (dos s0 T) k (N - c)) := hT
        have q1 : wr.cell? ⟨b', o' + i * 2 + 1, none⟩ = some (.int .i64 N) := (HQ.out _ J.gr).2
        obtain ⟨ma', mc', ha', hc', eN, MN, HN, hroom⟩ := J.now
        have HRM : Hid (∀ ad, ma' = some ad → 0 < mn → mn ≤ mc') := hroom
        clear hroom
        have hbr2 : b' < wr.heap.size := Nat.lt_of_lt_of_le hb' J.gr.size
        clear hT q0
        have HLT : Hid (k < (dos s0 T).hs.length) := by unfold Hid; rw [HN.len]; exact hk
        have eh : (dos s0 T).hs[k]? = some (at' (dos s0 T) k) := by unfold at'; rw [List.getElem?_eq_getElem HLT.out]; simp [List.getD, HLT.out]
        have okh : (at' (dos s0 T) k).Ok := HN.ok _ (List.mem_of_getElem? eh)
        obtain ⟨gh, oh, rfl, hgh, hrow⟩ := HN.spot (by omega)
        have RH : Hid (wr.rangeAt gh (oh + k * 37) (hL (at' (dos s0 T) k))) := hrow k _ eh
        have c35 : wr.cell? ⟨gh, oh + k * 37 + 35, none⟩ = some (.int .i64 (at' (dos s0 T) k).state) := RH.out 35 _ (hL_fld okh 3)
        have n0 := cr0 eN
        have n1 := cr1 eN
        have HeN : Hid (wr.heap[w1.heap.size]? = some (.cells #[.slice ma' mn mc', .slice (some ⟨gh, oh, none⟩) hn hc'] 34 (0, 0))) := eN
        have HMN : Hid (Mem wr ma' mn (dos s0 T).m) := MN
        have HHN : Hid (Hs wr (some ⟨gh, oh, none⟩) hn (dos s0 T).hs) := HN
        have hgl : w1.heap.size < wr.heap.size := (gs eN).1
        clear J eN MN HN hrow
        by_cases hcl : c < N
        · by_cases hst : (at' (dos s0 T) k).state = 0
          · rw [hst] at c35
            generalize hh : at' (dos s0 T) k = h at *
            have HAT : Hid (at' (dos s0 T) k = h) := hh
            have HST : Hid (h.state = 0) := hst
            have HOH : Hid h.Ok := okh
            have HBu : Hid (Tryd.prog.built 86 [(0, .int .i64 k), (1, .agg (hL h).toArray)] = some (uL ⟨k, h, 0, [], []⟩ nilS nilS).toArray) := built_undo okh k
            have HLh : Hid ((hL h).length = 37) := hL_len okh
            have HXS : Hid ((uL ⟨k, h, 0, [], []⟩ nilS nilS).toArray.size = 41) := by unfold Hid; rw [List.size_toArray]; exact uL_len okh
            have HX1 : Hid ((uL ⟨k, h, 0, [], []⟩ nilS nilS).toArray.all (·.oneCell') = true) := uA_one rfl rfl
            obtain ⟨X, hX⟩ : ∃ X, uL ⟨k, h, 0, [], []⟩ nilS nilS = X := ⟨_, rfl⟩
            have HXe : Hid (uL ⟨k, h, 0, [], []⟩ nilS nilS = X) := hX
            rw [hX] at HBu HXS HX1
            clear hX
            have HGS : Hid (∀ Y : Array Value, Gr wr ((wr.alloc (.cells Y 86)).setRow wr.heap.size X.toArray)) := fun Y => gr_setRow ((Gr.refl _).alloc _) (Nat.le_refl _) _
            have HS4 : Hid (∀ Y : Array Value, ((wr.alloc (.cells Y 86)).setRow wr.heap.size X.toArray).heap[wr.heap.size]? = some (.cells X.toArray 86 (0, 0))) := fun Y => srh (heap_alloc_new wr _)
            clear hst okh hh eh
            go_wp2_with (first
              | (refine wpList_load_mid rfl 70 _ rfl gh (oh + k * 37) rfl (hL h) _ ?r1 Tryd.underlying70 rfl (by rw [HLh.out]; exact iH) ?_; (case r1 => exact RH.out))
              | (refine wpList_buildTo rfl 86 _ rfl _ rfl X.toArray (by have := HBu.out; simp [Act.eval, Act.put]; exact this) ?_)
              | (refine wpList_store_row rfl 86 _ _ rfl wr.heap.size X.toArray rfl rfl 86 _ (heap_alloc_new wr _) (by rw [HXS.out]; exact iU) (by rw [HXS.out]; rfl) HX1.out ?_))
            refine atW (fun W => Gr wr W ∧ W.heap[wr.heap.size]? = some (.cells X.toArray 86 (0, 0))) ⟨HGS.out _, HS4.out _⟩ ?_
            rintro w4 ⟨G4, X4⟩
            have HG4 : Hid (Gr wr w4) := G4
            have HX4 : Hid (w4.heap[wr.heap.size]? = some (.cells X.toArray 86 (0, 0))) := X4
            have hl4 : wr.heap.size < w4.heap.size := (gs X4).1
            clear G4 X4 HGS HS4
            have HStp : Hid (∀ W : World, Gr w4 W → Calls Tryd.prog 32 #[.agg (hL h).toArray, .slice ma' mn mc'] W fun e w' => ∃ d, e = .returned (.agg (dA d)) ∧ (d.Ok ∧ Hr.StoV d (stp h (dos s0 T).m).sto) ∧ Gr W w') := fun W G => (Hr.rstep_any HOH.out (HMN.out.of (HG4.out.trans G)) (by omega) HST.out).mono fun e w' ⟨d, h1, h2, h3⟩ => ⟨d, h1, ⟨h2.ok, h2.sto⟩, h3⟩
            have HS13 : Hid (∀ W : World, Gr w4 W → W.cell? ⟨w1.heap.size, 0, none⟩ = some (.slice ma' mn mc') ∧ W.cell? ⟨w1.heap.size, 1, none⟩ = some (.slice (some ⟨gh, oh, none⟩) hn hc') ∧ W.rangeAt gh (oh + k * 37) (hL h)) := fun W G => ⟨cr0 (Hr.heap_of_gr (HG4.out.trans G) HeN.out), cr1 (Hr.heap_of_gr (HG4.out.trans G) HeN.out), rangeAt_of RH.out hgh (HG4.out.trans G)⟩
            have HSe : Hid (∃ S, stp h (dos s0 T).m = S) := ⟨_, rfl⟩
            obtain ⟨S, hSe⟩ := HSe.out
            have HSE : Hid (stp h (dos s0 T).m = S) := hSe
            rw [hSe] at HStp
            clear hSe HSe c35 n0 n1
            apply Mc.share
            · intro CONT
              refine wp_region_held_drew (S := fun W => W.cell? ⟨w1.heap.size, 0, none⟩ = some (.slice ma' mn mc') ∧ W.cell? ⟨w1.heap.size, 1, none⟩ = some (.slice (some ⟨gh, oh, none⟩) hn hc') ∧ W.rangeAt gh (oh + k * 37) (hL h)) (by kernel_rfl) ?_ (fun hHeld => ?_)
              · exact HS13.out _ (Gr.refl _).drew
              have HS0 : Hid _ := hHeld
              clear hHeld
              refine wpAnyH_take (i := 0) (v := .pointer (some ⟨w1.heap.size, 1, none⟩)) rfl (by kernel_rfl) (by kernel_rfl) (by kernel_rfl) (fun _ _ _ h => h) (Or.inl ⟨by rfl, fun W hW => by obtain ⟨y0, y1, y2⟩ := hW; go_simp⟩) HS0.out ?_
              simp only [List.getElem_toArray, List.getElem_cons_succ, List.getElem_cons_zero, Act.put, List.setIfInBounds_toArray, List.set_cons_zero, List.set_cons_succ]
              refine wpAnyH_take (i := 1) (v := .slice (some ⟨gh, oh, none⟩) hn hc') rfl (by kernel_rfl) (by kernel_rfl) (by kernel_rfl) (fun _ _ _ h => h) (Or.inl ⟨by rfl, fun W hW => by obtain ⟨y0, y1, y2⟩ := hW; go_simp⟩) HS0.out ?_
              simp only [List.getElem_toArray, List.getElem_cons_succ, List.getElem_cons_zero, Act.put, List.setIfInBounds_toArray, List.set_cons_zero, List.set_cons_succ]
              refine wpAnyH_take (i := 2) (v := .int .i64 k) rfl (by kernel_rfl) (by kernel_rfl) (by kernel_rfl) (fun _ _ _ h => h) (Or.inl ⟨by rfl, fun W hW => by obtain ⟨y0, y1, y2⟩ := hW; go_simp⟩) HS0.out ?_
              simp only [List.getElem_toArray, List.getElem_cons_succ, List.getElem_cons_zero, Act.put, List.setIfInBounds_toArray, List.set_cons_zero, List.set_cons_succ]
              refine wpAnyH_take (i := 3) (v := .pointer (some ⟨gh, oh + k * 37, none⟩)) rfl (by kernel_rfl) (by kernel_rfl) (by kernel_rfl) (fun _ _ _ h => h) (Or.inl ⟨by rfl, fun W hW => by obtain ⟨y0, y1, y2⟩ := hW; go_simp⟩) HS0.out ?_
              simp only [List.getElem_toArray, List.getElem_cons_succ, List.getElem_cons_zero, Act.put, List.setIfInBounds_toArray, List.set_cons_zero, List.set_cons_succ]
              refine wpAnyH_take (i := 4) (v := .agg (hL h).toArray) rfl (by kernel_rfl) (by kernel_rfl) (by kernel_rfl) (fun _ _ _ h => h) ?hy HS0.out ?_
              case hy => exact yieldsIf_load_mid (by rfl) 70 (.tmp 56) rfl gh (oh + k * 37) (by simp [Act.eval]) (hL h) _ (fun W hW => hW.2.2) Tryd.underlying70 rfl (by rw [HLh.out]; exact iH)
              simp only [List.getElem_toArray, List.getElem_cons_succ, List.getElem_cons_zero, Act.put, List.setIfInBounds_toArray, List.set_cons_zero, List.set_cons_succ]
              refine wpAnyH_take (i := 5) (v := .pointer (some ⟨w1.heap.size, 0, none⟩)) rfl (by kernel_rfl) (by kernel_rfl) (by kernel_rfl) (fun _ _ _ h => h) (Or.inl ⟨by rfl, fun W hW => by obtain ⟨y0, y1, y2⟩ := hW; go_simp⟩) HS0.out ?_
              simp only [List.getElem_toArray, List.getElem_cons_succ, List.getElem_cons_zero, Act.put, List.setIfInBounds_toArray, List.set_cons_zero, List.set_cons_succ]
              refine wpAnyH_take (i := 6) (v := .slice ma' mn mc') rfl (by kernel_rfl) (by kernel_rfl) (by kernel_rfl) (fun _ _ _ h => h) (Or.inl ⟨by rfl, fun W hW => by obtain ⟨y0, y1, y2⟩ := hW; go_simp⟩) HS0.out ?_
              simp only [List.getElem_toArray, List.getElem_cons_succ, List.getElem_cons_zero, Act.put, List.setIfInBounds_toArray, List.set_cons_zero, List.set_cons_succ]
              refine wpAnyH_ready (rs := [7, 8]) (by kernel_rfl) (by simp) ?_
              refine AllReadyH.cons rfl (fun K hK => ?cf) (AllReadyH.cons rfl (fun K hK => ?af) AllReadyH.nil)
              case cf =>
                go_simp
                refine (HStp.out _ (Gr.refl _).drew).mono ?_
                rintro e wd ⟨d, rfl, DD, Gd⟩
                have HGd : Hid (Gr w4 wd) := (Gr.refl _).drew.trans Gd
                have HSD : Hid ((dA d).size = 41) := dA_size DD.1.h
                have HOD : Hid ((dA d).all (·.oneCell') = true) := one_dA DD.1
                have HDd : Hid (d.Ok ∧ Hr.StoV d S.sto) := DD
                clear DD Gd
                refine hK.out _ _ (HS13.out _ HGd.out) (fun hx => ?_)
                clear hK K hx
                refine wpAnyH_ready (rs := [8]) (by kernel_rfl) (by simp) ?_
                refine AllReadyH.cons rfl (fun K hK => ?_) AllReadyH.nil
                go_simp
                refine hK.out _ _ (HS13.out _ (HGd.out.alloc _)) (fun hx => ?_)
                clear hK K hx
                refine Mc.held_store_row (i := 9) (by kernel_rfl) rfl rfl 81 (.tmp 11) (.tmp 60) rfl wd.heap.size (dA d) (by simp [Act.eval]) (by simp [Act.eval]) 81 _ (heap_alloc_new wd _) (by rw [HSD.out]; exact Hr.iD) (by rw [HSD.out]; rfl) HOD.out ?_ ?_
                · exact HS13.out _ (gr_setRow (HGd.out.alloc _) HGd.out.size _)
                refine wpAnyH_done (by kernel_rfl) ?_ _
                refine atW (fun W => W.heap[wd.heap.size]? = some (.cells (dA d) 81 (0, 0)) ∧ Gr w4 W) ?_ ?_
                · exact ⟨setRow_heap _ _ _ _ _ (0, 0) (heap_alloc_new wd _), gr_setRow (HGd.out.alloc _) HGd.out.size _⟩
                have gdl : w4.heap.size ≤ wd.heap.size := HGd.out.size
                clear HS0
                generalize wd.heap.size = gd at *
                clear HGd
                clear wd
                revert gdl
                revert gd
                revert HSD HOD HDd
                revert d
                exact CONT.out
              case af =>
                go_simp
                refine hK.out _ _ (HS13.out _ ((Gr.refl _).alloc _).drew) (fun hx => ?_)
                clear hK K hx
                refine wpAnyH_ready (rs := [7]) (by kernel_rfl) (by simp) ?_
                refine AllReadyH.cons rfl (fun K hK => ?_) AllReadyH.nil
                go_simp
                refine (HStp.out _ ((Gr.refl _).alloc _).drew).mono ?_
                rintro e wd ⟨d, rfl, DD, Gd⟩
                have HNw : Hid (wd.heap[w4.heap.size]? = some (.cells _ 81 (0, 0))) := Hr.heap_of_gr Gd (Hr.heap_of_gr (Gr.refl _).drew (heap_alloc_new w4 _))
                have HGd : Hid (Gr w4 wd) := Gr.trans (Gr.drew ((Gr.refl w4).alloc _)) Gd
                have HSD : Hid ((dA d).size = 41) := dA_size DD.1.h
                have HOD : Hid ((dA d).all (·.oneCell') = true) := one_dA DD.1
                have HDd : Hid (d.Ok ∧ Hr.StoV d S.sto) := DD
                clear DD Gd
                refine hK.out _ _ (HS13.out _ HGd.out) (fun hx => ?_)
                clear hK K hx
                refine Mc.held_store_row (i := 9) (by kernel_rfl) rfl rfl 81 (.tmp 11) (.tmp 60) rfl w4.heap.size (dA d) (by simp [Act.eval]) (by simp [Act.eval]) 81 _ HNw.out (by rw [HSD.out]; exact Hr.iD) (by rw [HSD.out]; rfl) HOD.out ?_ ?_
                · exact HS13.out _ (gr_setRow HGd.out (Nat.le_refl _) _)
                refine wpAnyH_done (by kernel_rfl) ?_ _
                refine atW (fun W => W.heap[w4.heap.size]? = some (.cells (dA d) 81 (0, 0)) ∧ Gr w4 W) ?_ ?_
                · exact ⟨setRow_heap _ _ _ _ _ (0, 0) HNw.out, gr_setRow HGd.out (Nat.le_refl _) _⟩
                exact CONT.out d HSD HOD HDd _ (Nat.le_refl _)
            · intro d HSD HOD HDd gd gdl
              clear HS13 HStp
              rintro wD ⟨BD, GD⟩
              have FT : Fit (dos s0 T) hn mn := dos_fit HJ2.out.live HF0.out
              have HFT : Hid (Fit (dos s0 T) hn mn) := FT
              have HMl : Hid ((dos s0 T).m.length = mn) := FT.mem
              have bd : ∀ p ∈ (stp (at' (dos s0 T) k) (dos s0 T).m).sto, 0 ≤ p.1 ∧ 0 < p.2 ∧ p.1 + p.2 ≤ mn := fun p hp => by
                rw [HAT.out] at hp
                have := (stp_sto HOH.out (dos s0 T).m).1 p hp
                unfold StOk at this
                rwa [FT.mem] at this
              have cs := sto_many (d := d) FT hk (by rw [HAT.out]; exact HST.out) (by rw [HAT.out, HSE.out]; exact HDd.out.2) bd
              rw [HAT.out] at cs
              have g39 : wD.cell? ⟨gd, 39, none⟩ = some (.int .u32 d.fro) := (cr BD).trans (by rw [dA_fld HDd.out.1.h 2]; rfl)
              have g40 : wD.cell? ⟨gd, 40, none⟩ = some (.int .i64 d.many) := (cr BD).trans (by rw [dA_fld HDd.out.1.h 3]; rfl)
              have HUD : Hid (wD.heap[wr.heap.size]? = some (.cells X.toArray 86 (0, 0))) := Hr.heap_of_gr GD HX4.out
              have HGD : Hid (Gr wr wD) := HG4.out.trans GD
              have HND : Hid (wD.heap[w1.heap.size]? = some (.cells #[.slice ma' mn mc', .slice (some ⟨gh, oh, none⟩) hn hc'] 34 (0, 0))) := Hr.heap_of_gr HGD.out HeN.out
              have HDD : Hid (wD.heap[gd]? = some (.cells (dA d) 81 (0, 0))) := BD
              have u38 : wD.cell? ⟨wr.heap.size, 38, none⟩ = some (.int .u32 0) := (cr HUD.out).trans (by rw [List.getElem?_toArray, ← HXe.out]; exact uL_fld (u := ⟨k, h, 0, [], []⟩) HOH.out 0)
              have v38 : wD.frozen? ⟨wr.heap.size, 38, none⟩ = false := fzr HUD.out
              have u39 : wD.cell? ⟨wr.heap.size, 39, none⟩ = some nilS := (cr HUD.out).trans (by rw [List.getElem?_toArray, ← HXe.out]; exact uL_fld (u := ⟨k, h, 0, [], []⟩) HOH.out 1)
              have HPw : Hid (∀ (W : World) (b : Nat) (t : Nat), Gr wr W → W.heap[b]? = some (.cells #[.int .i64 k, .int .i64 1] t (0, 0)) → Calls Tryd.prog 14 #[.agg #[.slice ma' mn mc', .slice (some ⟨gh, oh, none⟩) hn hc'], .slice (some ⟨b, 0, none⟩) 1 1] W fun e w' => ∃ v, e = .returned v ∧ Shf W.heap.size w' v hn mn (play ⟨(dos s0 T).hs, (dos s0 T).m, [], 0⟩ [(k, 1)]) ∧ Gr W w') := fun W b t G hb => Play_w mc' hc' 1 mn (HMN.out.of G) (HHN.out.of G) (one_ps hb) (wrong_fit FT c0 c4 m4 hk)
              have HP1 : Hid (_ ∧ _) := play_one (s := dos s0 T) (k := k) (by rw [HAT.out]; exact HST.out)
              have n0 := cr0 HND.out
              have n1 := cr1 HND.out
              have hgdl : gd < wD.heap.size := (gs BD).1
              have hgu : gd ≠ wr.heap.size := by omega
              clear BD GD HG4 HX4 bd FT
              rcases cs with ⟨m0, eu⟩ | ⟨m0, f0, fm, eu⟩
              · have HEU : Hid (undoS (dos s0 T) k = _) := eu
                rw [m0] at g40
                clear eu
                go_wp2_with fail
                refine (HPw.out _ _ _ (HGD.out.alloc _) (heap_alloc_new wD _)).mono ?_
                rintro e w6 ⟨v, rfl, S6, G6⟩
                obtain ⟨t1, x1, t2, x2, t3, x3, rfl, hM6, hH6, _, fr6, fh6⟩ := S6
                rw [HP1.out.2] at hM6
                rw [HP1.out.1] at hH6
                have HM6 : Hid (Mem w6 t1 mn (stepS (dos s0 T) k).m ∧ Hs w6 t2 hn (stepS (dos s0 T) k).hs ∧ (∀ ad, t1 = some ad → 0 < mn → wD.heap.size ≤ ad.block ∧ mn ≤ x1) ∧ (∀ ad, t2 = some ad → wD.heap.size ≤ ad.block)) := ⟨hM6, hH6, fun ad e h0 => by have := fr6 ad e h0; simp at this; omega, fun ad e => by have := fh6 ad e; simp at this; omega⟩
                have HG6 : Hid (Gr wD w6) := ((Gr.refl _).alloc _).trans G6
                clear hM6 hH6 fr6 fh6 G6 HPw
                go_wp2_with (refine wpList_field rfl 40 _ 0 rfl _ rfl field_shown ?_)
                have HUW : Hid (wr.heap.size < wD.heap.size) := (gs HUD.out).1
                refine atW (fun W => ∃ (f : Int) (B : Value) (bs : List UInt8) (nD : Nat), W.heap[wr.heap.size]? = some (.cells (uL ⟨k, h, f, [], []⟩ B nilS).toArray 86 (0, 0)) ∧ Hc.Own W 0 B bs ∧ undoS (dos s0 T) k = ⟨k, h, f, bs, lostN (dos s0 T) k (dos s0 T).hs.length⟩ ∧ W.heap[w1.heap.size]? = some (.cells #[.slice ma' mn mc', .slice (some ⟨gh, oh, none⟩) hn hc'] 34 (0, 0)) ∧ W.heap[w6.heap.size]? = some (.cells #[.slice t1 mn x1, .slice t2 hn x2] 34 (0, 0)) ∧ Mem W t1 mn (stepS (dos s0 T) k).m ∧ Hs W t2 hn (stepS (dos s0 T) k).hs ∧ Gr wr W ∧ wr.heap.size < nD ∧ (∀ ad, t1 = some ad → 0 < mn → nD ≤ ad.block ∧ mn ≤ x1) ∧ (∀ ad, t2 = some ad → nD ≤ ad.block) ∧ w6.heap.size ≠ wr.heap.size) ⟨0, nilS, [], wD.heap.size, Hr.heap_of_gr (HG6.out.alloc _) (by rw [HXe.out]; exact HUD.out), own_of (base := 0) rfl (World.ownsRow_nil _ _ _ _), HEU.out, Hr.heap_of_gr (HG6.out.alloc _) HND.out, heap_alloc_new w6 _, HM6.out.1.of ((Gr.refl _).alloc _), HM6.out.2.1.of ((Gr.refl _).alloc _), (HGD.out.trans HG6.out).alloc _, HUW.out, HM6.out.2.2.1, HM6.out.2.2.2, by have := HG6.out.size; have := HUW.out; omega⟩ ?_
                rintro W7 ⟨f, B, bs, nD, aXU, aOB, aEU, aNW, aNX, aMW, aHW, aGW, anD, aF1, aF2, aG12⟩
                have HXU : Hid (W7.heap[wr.heap.size]? = some (.cells (uL ⟨k, h, f, [], []⟩ B nilS).toArray 86 (0, 0))) := aXU
                have HOB : Hid (Hc.Own W7 0 B bs) := aOB
                have HBo : Hid (B.oneCell' = true) := by unfold Hid; obtain ⟨_, _, e, _⟩ := aOB.mem; rw [e]; rfl
                have HEU : Hid (undoS (dos s0 T) k = ⟨k, h, f, bs, lostN (dos s0 T) k (dos s0 T).hs.length⟩) := aEU
                have HNW : Hid (W7.heap[w1.heap.size]? = some (.cells #[.slice ma' mn mc', .slice (some ⟨gh, oh, none⟩) hn hc'] 34 (0, 0))) := aNW
                obtain ⟨b2, o2, rfl, hb2, hr2⟩ := aHW.spot c0
                have HNX7 : Hid (W7.heap[w6.heap.size]? = some (.cells #[.slice t1 mn x1, .slice (some ⟨b2, o2, none⟩) hn x2] 34 (0, 0))) := aNX
                have HMW : Hid (Mem W7 t1 mn (stepS (dos s0 T) k).m) := aMW
                have HHW : Hid (Hs W7 (some ⟨b2, o2, none⟩) hn (stepS (dos s0 T) k).hs) := aHW
                have HRX : Hid (∀ i h, (stepS (dos s0 T) k).hs[i]? = some h → W7.rangeAt b2 (o2 + i * 37) (hL h)) := hr2
                have HGW : Hid (Gr wr W7) := aGW
                have HRN : Hid (∀ i h, (dos s0 T).hs[i]? = some h → W7.rangeAt gh (oh + i * 37) (hL h)) := by
                  obtain ⟨b3, o3, e3, _, hr3⟩ := (HHN.out.of aGW).spot c0
                  injection e3 with e3
                  injection e3 with e4 e5
                  subst e4 e5
                  exact hr3
                have HnD : Hid (wr.heap.size < nD) := anD
                have HF1 : Hid (∀ ad, t1 = some ad → 0 < mn → nD ≤ ad.block ∧ mn ≤ x1) := aF1
                have HF2 : Hid (∀ ad : Addr, some (⟨b2, o2, none⟩ : Addr) = some ad → nD ≤ ad.block) := aF2
                have HB2 : Hid (b2 ≠ wr.heap.size) := by have := aF2 _ rfl; unfold Hid; simp only at this; omega
                have HG12 : Hid (w6.heap.size ≠ wr.heap.size) := aG12
                have HUB : Hid (wr.heap.size < W7.heap.size) := (gs aXU).1
                have HGHW : Hid (gh < W7.heap.size) := Nat.lt_of_lt_of_le hgh aGW.size
                have HGl : Hid (w.heap.size ≤ w1.heap.size) := HG1.out.size
                have HSTL : Hid ((stp (at' (dos s0 T) k) (dos s0 T).m).sto.length ≤ 1) := by unfold Hid; rw [HAT.out]; exact (stp_sto HOH.out _).2
                clear aXU aOB aEU aNW aNX aMW aHW aGW anD aF1 aF2 aG12 hr2
                clear HM6 HG6
                go_loopw [13] (fun jv wq => ∃ (j : Nat) (L : Value), j ≤ hn ∧ jv = .int .i64 j ∧ Jl wr W7 wr.heap.size (dos s0 T) k h f B L wq j) (fun jv _ => hn - (intOf jv).toNat)
                case atStart => exact ⟨0, nilS, Nat.zero_le _, rfl, HXU.out, by rw [lostN_zero]; exact World.ownsRow_nil _ _ _ _, Ex.refl _ _, HGW.out⟩
                case round =>
                  rename World => w3
                  obtain ⟨j, L, hj, rfl, JL⟩ := hrel
                  obtain ⟨_, _, la, lc, rfl⟩ := owns_cells JL.row
                  have HJL : Hid (Jl wr W7 wr.heap.size (dos s0 T) k h f B _ w3 j) := JL
                  have y0 : w3.cell? ⟨w6.heap.size, 1, none⟩ = some (.slice (some ⟨b2, o2, none⟩) hn x2) := cr1 (JL.ex.row HNX7.out HG12.out)
                  have y1 : w3.cell? ⟨w1.heap.size, 1, none⟩ = some (.slice (some ⟨gh, oh, none⟩) hn hc') := cr1 (JL.ex.row HNW.out (Nat.ne_of_lt hgl))
                  have HY1 : Hid _ := y1
                  clear JL
                  by_cases hjl : j < hn
                  · obtain ⟨q, hq⟩ : ∃ q, (dos s0 T).hs[j]? = some q := ⟨_, List.getElem?_eq_getElem (by rw [HFT.out.len]; exact hjl)⟩
                    obtain ⟨p, hp⟩ : ∃ p, (stepS (dos s0 T) k).hs[j]? = some p := ⟨_, List.getElem?_eq_getElem (by rw [HHW.out.len]; exact hjl)⟩
                    have HEQ : Hid ((dos s0 T).hs[j]? = some q) := hq
                    have HOQ : Hid q.Ok := HHN.out.ok _ (List.mem_of_getElem? hq)
                    have okp : p.Ok := HHW.out.ok _ (List.mem_of_getElem? hp)
                    have r33 : w3.cell? ⟨gh, oh + j * 37 + 33, none⟩ = some (.bool q.held) := HJL.out.ex.range (HRN.out j q hq) HGHW.out (Nat.ne_of_lt hgh) 33 _ (hL_fld HOQ.out 1)
                    have r34 : w3.cell? ⟨gh, oh + j * 37 + 34, none⟩ = some (.int .u32 q.heldAt) := HJL.out.ex.range (HRN.out j q hq) HGHW.out (Nat.ne_of_lt hgh) 34 _ (hL_fld HOQ.out 2)
                    have HR34 : Hid _ := r34
                    have z33 : w3.cell? ⟨b2, o2 + j * 37 + 33, none⟩ = some (.bool p.held) := HJL.out.ex.range (HRX.out j p hp) hb2 HB2.out 33 _ (hL_fld okp 1)
                    have HLS : Hid (lostN (dos s0 T) k (j + 1) = lostN (dos s0 T) k j ++ (if j ≠ k ∧ q.held = true ∧ p.held = false then [((j : Int), q.heldAt)] else [])) := by
                      have := lostN_succ (s := dos s0 T) (k := k) (j := j) (by rw [HFT.out.len]; exact hjl) HSTL.out
                      rw [show (dos s0 T).hs.getD j Mc.hN = q by simp [List.getD, hq], show (stepS (dos s0 T) k).hs.getD j Mc.hN = p by simp [List.getD, hp]] at this
                      exact this
                    have hll := lostN_len (dos s0 T) k j (by rw [HFT.out.len]; omega) HSTL.out
                    have u40 : w3.cell? ⟨wr.heap.size, 40, none⟩ = some (.slice la (lostN (dos s0 T) k j).length lc) := (cr HJL.out.blk).trans (by rw [List.getElem?_toArray]; exact uL_fld (u := ⟨k, h, f, [], []⟩) HOH.out 2)
                    clear hq hp okp
                    by_cases hjk : j = k
                    · have hne : ((j : Int) != (k : Int)) = false := by simp [hjk]
                      have HN : Hid (lostN (dos s0 T) k (j + 1) = lostN (dos s0 T) k j) := by unfold Hid; rw [HLS.out, if_neg (fun h => h.1 hjk), List.append_nil]
                      clear hjk HLS
                      go_wp2_with fail
                      go_roundw
                      case rel => exact ⟨j + 1, _, by omega, by go_num, HJL.out.skip HN.out⟩
                      case measure => simp [intOf]; omega
                    · have hne : ((j : Int) != (k : Int)) = true := by simp; omega
                      cases hqh : q.held with
                      | false =>
                        rw [hqh] at r33
                        have HN : Hid (lostN (dos s0 T) k (j + 1) = lostN (dos s0 T) k j) := by unfold Hid; rw [HLS.out, if_neg (fun h => by rw [hqh] at h; exact absurd h.2.1 (by simp)), List.append_nil]
                        clear hjk HLS hqh
                        go_wp2_with fail
                        go_roundw
                        case rel => exact ⟨j + 1, _, by omega, by go_num, HJL.out.skip HN.out⟩
                        case measure => simp [intOf]; omega
                      | true =>
                        rw [hqh] at r33
                        cases hph : p.held with
                        | true =>
                          rw [hph] at z33
                          have HN : Hid (lostN (dos s0 T) k (j + 1) = lostN (dos s0 T) k j) := by unfold Hid; rw [HLS.out, if_neg (fun h => by rw [hph] at h; exact absurd h.2.2 (by simp)), List.append_nil]
                          clear hjk HLS hqh hph
                          go_wp2_with fail
                          go_roundw
                          case rel => exact ⟨j + 1, _, by omega, by go_num, HJL.out.skip HN.out⟩
                          case measure => simp [intOf]; omega
                        | false =>
                          rw [hph] at z33
                          have HN : Hid (lostN (dos s0 T) k (j + 1) = lostN (dos s0 T) k j ++ [((j : Int), q.heldAt)]) := by unfold Hid; rw [HLS.out, if_pos ⟨hjk, hqh, hph⟩]
                          have hub3 : wr.heap.size < w3.heap.size := (gs HJL.out.blk).1
                          obtain ⟨i0, hi0, hz0, hz1, hz2⟩ := info_parts infoL
                          clear hjk HLS hqh hph
                          go_wp2_with fail
                          refine wp_region_held_drew (S := fun W => W.cell? ⟨w1.heap.size, 1, none⟩ = some (.slice (some ⟨gh, oh, none⟩) hn hc') ∧ W.cell? ⟨gh, oh + j * 37 + 34, none⟩ = some (.int .u32 q.heldAt)) (by kernel_rfl) ?_ (fun hHeld => ?_)
                          · exact ⟨y1, r34⟩
                          have HT0 : Hid _ := hHeld
                          clear hHeld
                          refine wpAnyH_take (i := 0) (v := .pointer (some ⟨wr.heap.size, 40, none⟩)) rfl (by kernel_rfl) (by kernel_rfl) (by kernel_rfl) (fun _ _ _ h => h) (Or.inl ⟨by rfl, fun W hW => by obtain ⟨q1, q2⟩ := hW; go_simp⟩) HT0.out ?_
                          simp only [List.getElem_toArray, List.getElem_cons_succ, List.getElem_cons_zero, Act.put, List.setIfInBounds_toArray, List.set_cons_zero, List.set_cons_succ]
                          refine wpAnyH_take (i := 2) (v := .int .i64 j) rfl (by kernel_rfl) (by kernel_rfl) (by kernel_rfl) (fun _ _ _ h => h) (Or.inl ⟨by rfl, fun W hW => by obtain ⟨q1, q2⟩ := hW; go_simp⟩) HT0.out ?_
                          simp only [List.getElem_toArray, List.getElem_cons_succ, List.getElem_cons_zero, Act.put, List.setIfInBounds_toArray, List.set_cons_zero, List.set_cons_succ]
                          refine wpAnyH_take (i := 3) (v := .pointer (some ⟨w1.heap.size, 1, none⟩)) rfl (by kernel_rfl) (by kernel_rfl) (by kernel_rfl) (fun _ _ _ h => h) (Or.inl ⟨by rfl, fun W hW => by obtain ⟨q1, q2⟩ := hW; go_simp⟩) HT0.out ?_
                          simp only [List.getElem_toArray, List.getElem_cons_succ, List.getElem_cons_zero, Act.put, List.setIfInBounds_toArray, List.set_cons_zero, List.set_cons_succ]
                          refine wpAnyH_take (i := 4) (v := .slice (some ⟨gh, oh, none⟩) hn hc') rfl (by kernel_rfl) (by kernel_rfl) (by kernel_rfl) (fun _ _ _ h => h) (Or.inl ⟨by rfl, fun W hW => by obtain ⟨q1, q2⟩ := hW; go_simp⟩) HT0.out ?_
                          simp only [List.getElem_toArray, List.getElem_cons_succ, List.getElem_cons_zero, Act.put, List.setIfInBounds_toArray, List.set_cons_zero, List.set_cons_succ]
                          refine wpAnyH_take (i := 5) (v := .int .i64 j) rfl (by kernel_rfl) (by kernel_rfl) (by kernel_rfl) (fun _ _ _ h => h) (Or.inl ⟨by rfl, fun W hW => by obtain ⟨q1, q2⟩ := hW; go_simp⟩) HT0.out ?_
                          simp only [List.getElem_toArray, List.getElem_cons_succ, List.getElem_cons_zero, Act.put, List.setIfInBounds_toArray, List.set_cons_zero, List.set_cons_succ]
                          refine wpAnyH_take (i := 6) (v := .pointer (some ⟨gh, oh + j * 37, none⟩)) rfl (by kernel_rfl) (by kernel_rfl) (by kernel_rfl) (fun _ _ _ h => h) (Or.inl ⟨by rfl, fun W hW => by obtain ⟨q1, q2⟩ := hW; go_simp⟩) HT0.out ?_
                          simp only [List.getElem_toArray, List.getElem_cons_succ, List.getElem_cons_zero, Act.put, List.setIfInBounds_toArray, List.set_cons_zero, List.set_cons_succ]
                          refine wpAnyH_take (i := 7) (v := .pointer (some ⟨gh, oh + j * 37 + 34, none⟩)) rfl (by kernel_rfl) (by kernel_rfl) (by kernel_rfl) (fun _ _ _ h => h) (Or.inl ⟨by rfl, fun W hW => by obtain ⟨q1, q2⟩ := hW; go_simp⟩) HT0.out ?_
                          simp only [List.getElem_toArray, List.getElem_cons_succ, List.getElem_cons_zero, Act.put, List.setIfInBounds_toArray, List.set_cons_zero, List.set_cons_succ]
                          refine wpAnyH_take (i := 8) (v := .int .u32 q.heldAt) rfl (by kernel_rfl) (by kernel_rfl) (by kernel_rfl) (fun _ _ _ h => h) (Or.inl ⟨by rfl, fun W hW => by obtain ⟨q1, q2⟩ := hW; go_simp⟩) HT0.out ?_
                          simp only [List.getElem_toArray, List.getElem_cons_succ, List.getElem_cons_zero, Act.put, List.setIfInBounds_toArray, List.set_cons_zero, List.set_cons_succ]
                          refine wpAnyH_take (i := 9) (v := .agg #[.int .i64 j, .int .u32 q.heldAt]) rfl (by kernel_rfl) (by kernel_rfl) (by kernel_rfl) (fun _ _ _ h => h) (Or.inl ⟨by rfl, fun W hW => by obtain ⟨q1, q2⟩ := hW; go_simp⟩) HT0.out ?_
                          simp only [List.getElem_toArray, List.getElem_cons_succ, List.getElem_cons_zero, Act.put, List.setIfInBounds_toArray, List.set_cons_zero, List.set_cons_succ]
                          have HSa : Hid (∀ Z : Obj, (w3.drew.alloc Z).cell? ⟨w1.heap.size, 1, none⟩ = some (.slice (some ⟨gh, oh, none⟩) hn hc') ∧ (w3.drew.alloc Z).cell? ⟨gh, oh + j * 37 + 34, none⟩ = some (.int .u32 q.heldAt)) := fun Z => ⟨((Gr.alloc (Gr.drew (Gr.refl w3)) Z).cell _ (by exact Nat.lt_of_lt_of_le hgl HJL.out.gr.size)).trans HY1.out, ((Gr.alloc (Gr.drew (Gr.refl w3)) Z).cell _ (by exact Nat.lt_of_lt_of_le hgh HJL.out.gr.size)).trans HR34.out⟩
                          have HGA : Hid (Gr w3 (w3.drew.alloc (.cells #[.int .i64 j, .int .u32 q.heldAt] 88))) := Gr.alloc (Gr.drew (Gr.refl _)) _
                          have HXc : Hid (∀ jj u, [Value.int .i64 j, Value.int .u32 q.heldAt][jj]? = some u → (w3.drew.alloc (.cells #[.int .i64 j, .int .u32 q.heldAt] 88)).cell? ((⟨w3.drew.heap.size, 0, none⟩ : Addr).add jj) = some u) := fun jj u hh => by
                            rw [add_at, Nat.zero_add, cr (heap_alloc_new w3.drew (.cells #[.int .i64 j, .int .u32 q.heldAt] 88))]
                            rw [← List.getElem?_toArray] at hh
                            exact hh
                          apply shareP
                          · intro CONT
                            refine wpAnyH_ready (rs := [1, 10]) (by kernel_rfl) (by simp) ?_
                            refine AllReadyH.cons rfl (fun K hK => ?_) (AllReadyH.cons rfl (fun K hK => ?_) AllReadyH.nil)
                            · go_simp
                              refine hK.out _ _ HT0.out (fun hx => ?_)
                              clear hK K hx
                              refine wpAnyH_ready (rs := [10]) (by kernel_rfl) (by simp) ?_
                              refine AllReadyH.cons rfl (fun K hK => ?_) AllReadyH.nil
                              refine step_slice1 rfl 84 88 (.tmp 125) rfl #[.int .i64 j, .int .u32 q.heldAt] 2 (by simp [Act.eval, Act.put]) rfl Tryd.underlying84 iLz (by decide) (by decide) ?_
                              refine hK.out _ _ (HSa.out _) (fun hx => ?_)
                              clear hK K hx
                              simp only [List.getElem_toArray, List.getElem_cons_succ, List.getElem_cons_zero, Act.put, List.setIfInBounds_toArray, List.set_cons_zero, List.set_cons_succ]
                              exact CONT.out
                            · refine step_slice1 rfl 84 88 (.tmp 125) rfl #[.int .i64 j, .int .u32 q.heldAt] 2 (by simp [Act.eval, Act.put]) rfl Tryd.underlying84 iLz (by decide) (by decide) ?_
                              refine hK.out _ _ (HSa.out _) (fun hx => ?_)
                              clear hK K hx
                              simp only [List.getElem_toArray, List.getElem_cons_succ, List.getElem_cons_zero, Act.put, List.setIfInBounds_toArray, List.set_cons_zero, List.set_cons_succ]
                              refine wpAnyH_ready (rs := [1]) (by kernel_rfl) (by simp) ?_
                              refine AllReadyH.cons rfl (fun K hK => ?_) AllReadyH.nil
                              go_simp
                              refine hK.out _ _ (HSa.out _) (fun hx => ?_)
                              clear hK K hx
                              exact CONT.out
                          refine wpAnyH_ready (rs := [11]) (by kernel_rfl) (by simp) ?_
                          refine AllReadyH.cons rfl (fun K hK => ?_) AllReadyH.nil
                          refine step_append_own rfl (.tmp 117) (.tmp 126) 84 rfl W7.heap.size 88 i0 (.agg #[.int .i64 0, .int .u32 0]) 2 16 Tryd.underlying84 hi0 hz0 hz1 hz2 rfl (by decide) (.slice la (lostN (dos s0 T) k j).length lc) (lostN (dos s0 T) k j).length (lsI (lostN (dos s0 T) k j)) (by simp [Act.eval, Act.put]) (owns_gr HJL.out.row HGA.out) ⟨w3.drew.heap.size, 0, none⟩ 1 1 [.int .i64 j, .int .u32 q.heldAt] (by simp [Act.eval, Act.put]) rfl HXc.out (two_lost _ _) (by unfold maxLen; omega) (by omega) (by have := HGA.out.size; have := HJL.out.ex.size; omega) ?_
                          intro v' w8 hown hgrow
                          obtain ⟨g', cp, rfl⟩ := own_form hown (by omega)
                          obtain ⟨e8, x8, J8⟩ := HJL.out.app HOH.out HUB.out (Nat.le_refl _) HGA.out hgrow hown HN.out
                          have HJ8 : Hid (Jl wr W7 wr.heap.size (dos s0 T) k h f B _ _ (j + 1)) := J8
                          have c8 : w8.cell? ⟨wr.heap.size, 40, none⟩ = some (.slice la (lostN (dos s0 T) k j).length lc) := (cr e8).trans (by rw [List.getElem?_toArray]; exact uL_fld (u := ⟨k, h, f, [], []⟩) HOH.out 2)
                          have f8 : w8.frozen? ⟨wr.heap.size, 40, none⟩ = false := fzr e8
                          have HT8 : Hid (w8.cell? ⟨w1.heap.size, 1, none⟩ = some (.slice (some ⟨gh, oh, none⟩) hn hc') ∧ w8.cell? ⟨gh, oh + j * 37 + 34, none⟩ = some (.int .u32 q.heldAt)) := ⟨cr1 (x8.row HNW.out (Nat.ne_of_lt hgl)), x8.range (HRN.out j q HEQ.out) HGHW.out (Nat.ne_of_lt hgh) 34 _ (hL_fld HOQ.out 2)⟩
                          have HT9 : Hid ((w8.setCell ⟨wr.heap.size, 40, none⟩ (.slice (some ⟨g', 0, none⟩) ((lostN (dos s0 T) k j).length + 1) cp)).cell? ⟨w1.heap.size, 1, none⟩ = some (.slice (some ⟨gh, oh, none⟩) hn hc') ∧ (w8.setCell ⟨wr.heap.size, 40, none⟩ (.slice (some ⟨g', 0, none⟩) ((lostN (dos s0 T) k j).length + 1) cp)).cell? ⟨gh, oh + j * 37 + 34, none⟩ = some (.int .u32 q.heldAt)) := ⟨cr1 (HJ8.out.ex.row HNW.out (Nat.ne_of_lt hgl)), HJ8.out.ex.range (HRN.out j q HEQ.out) HGHW.out (Nat.ne_of_lt hgh) 34 _ (hL_fld HOQ.out 2)⟩
                          clear J8 e8 x8 hown
                          refine hK.out _ _ HT8.out (fun hx => ?_)
                          clear hK K hx hgrow
                          refine wpAnyH_take (i := 12) (v := .pointer (some ⟨wr.heap.size, 40, none⟩)) rfl (by kernel_rfl) (by kernel_rfl) (by kernel_rfl) (fun _ _ _ h => h) (Or.inl ⟨by rfl, fun W hW => by obtain ⟨q1, q2⟩ := hW; go_simp⟩) HT8.out ?_
                          simp only [List.getElem_toArray, List.getElem_cons_succ, List.getElem_cons_zero, Act.put, List.setIfInBounds_toArray, List.set_cons_zero, List.set_cons_succ]
                          refine wpAnyH_ready (rs := [13]) (by kernel_rfl) (by simp) ?_
                          refine AllReadyH.cons rfl (fun K hK => ?_) AllReadyH.nil
                          go_simp
                          refine hK.out _ _ HT9.out (fun hx => ?_)
                          clear hK K hx
                          refine wpAnyH_done (by kernel_rfl) ?_ _
                          go_wp2_with fail
                          go_roundw
                          case rel => exact ⟨j + 1, _, by omega, by go_num, HJ8.out⟩
                          case measure => simp [intOf]; omega
                  · have ej : j = hn := by omega
                    subst ej
                    obtain ⟨xs, hO, hU⟩ := HJ2.out.row
                    have HOx : Hid (wr.ownsRow (w1.heap.size + 1) 86 41 u5 T.length xs) := hO
                    have HUx : Hid (Ux wr (uns s0 T) xs) := hU
                    obtain ⟨XL, hXL⟩ : ∃ XL, uL ⟨k, h, f, [], []⟩ B (.slice la (lostN (dos s0 T) k j).length lc) = XL := ⟨_, rfl⟩
                    have HXL : Hid (uL ⟨k, h, f, [], []⟩ B (.slice la (lostN (dos s0 T) k j).length lc) = XL) := hXL
                    have HXl : Hid (XL.length = 41) := by unfold Hid; rw [← hXL]; exact uL_len (u := ⟨k, h, f, [], []⟩) HOH.out
                    have HXa : Hid (XL.toArray.size = 41) := by unfold Hid; rw [List.size_toArray]; exact HXl.out
                    have HXo : Hid (∀ v ∈ XL, v.oneCell' = true) := by unfold Hid; rw [← hXL]; exact uL_one HBo.out rfl
                    have HXb : Hid (w3.heap[wr.heap.size]? = some (.cells XL.toArray 86 (0, 0))) := by unfold Hid; rw [← hXL]; exact HJL.out.blk
                    have HGA : Hid (Gr w3 (w3.alloc (.cells XL.toArray 86))) := (Gr.refl _).alloc _
                    have HXc : Hid (∀ j u, XL[j]? = some u → (w3.alloc (.cells XL.toArray 86)).cell? ((⟨w3.heap.size, 0, none⟩ : Addr).add j) = some u) := fun j u hj => by
                      rw [add_at, Nat.zero_add, cr (heap_alloc_new w3 (.cells XL.toArray 86)), List.getElem?_toArray]
                      exact hj
                    have hw3 : wr.heap.size ≤ w3.heap.size := HJL.out.gr.size
                    obtain ⟨i0, hi0, hz0, hz1, hz2⟩ := info_parts infoU
                    clear hO hU hXL
                    go_wp2_with (first
                      | (refine wpList_load_row rfl 86 _ rfl wr.heap.size rfl 86 XL.toArray (0, 0) _ ?z1 Tryd.underlying86 rfl (by rw [HXa.out]; exact iU) ?_; (case z1 => exact HXb.out))
                      | (refine wpList_slice1 rfl 41 86 (.tmp 130) rfl XL.toArray 41 rfl HXa.out Tryd.underlying41 iUz (by decide) (by decide) ?_)
                      | (at_builtin; refine wpList_append_own _ rfl (.tmp 129) (.tmp 131) 41 rfl (w1.heap.size + 1) 86 i0 _ 41 224 Tryd.underlying41 hi0 hz0 hz1 hz2 (by simp [Value.cells, uL_len (u := h00) h0_ok]) (by decide) u5 T.length xs rfl (owns_gr HOx.out (HJL.out.gr.trans HGA.out)) ⟨w3.heap.size, 0, none⟩ 1 1 XL rfl (by rw [HXl.out]) HXc.out HXo.out (by unfold maxLen; omega) (by omega) (by simp; omega) ?_; intro v' w9 hown hgrow _; have HO9 : Hid (w9.ownsRow (w1.heap.size + 1) 86 41 v' (T.length + 1) (xs ++ XL)) := hown; have HG9 : Hid ((w3.alloc (.cells XL.toArray 86)).grownBy w9 u5.ownBlock) := hgrow; have HN9 : Hid (w9.heap[w1.heap.size]? = some (.cells #[.slice ma' mn mc', .slice (some ⟨gh, oh, none⟩) j hc'] 34 (0, 0)) ∧ w9.heap[w6.heap.size]? = some (.cells #[.slice t1 mn x1, .slice (some ⟨b2, o2, none⟩) j x2] 34 (0, 0))) := (by
                          have a1 := Hr.heap_of_gr HGA.out (HJL.out.ex.row HNW.out (Nat.ne_of_lt hgl))
                          have a2 := Hr.heap_of_gr HGA.out (HJL.out.ex.row HNX7.out HG12.out)
                          exact ⟨(grown_keep (owns_gr HOx.out (HJL.out.gr.trans HGA.out)) hgrow (by decide) a1).trans a1, (grown_keep (owns_gr HOx.out (HJL.out.gr.trans HGA.out)) hgrow (by decide) a2).trans a2⟩); have z0 := cr0 HN9.out.2; have z1 := cr1 HN9.out.2; have z2 := cr0 HN9.out.1; have z3 := cr1 HN9.out.1; have z4 : w9.frozen? ⟨w1.heap.size, 0, none⟩ = false := fzr HN9.out.1; have z5 : w9.frozen? ⟨w1.heap.size, 1, none⟩ = false := fzr HN9.out.1; clear hown hgrow)
                      | (refine wpList_load_row rfl 34 _ rfl w6.heap.size rfl 34 #[.slice t1 mn x1, .slice (some ⟨b2, o2, none⟩) j x2] (0, 0) _ ?z2 Tryd.underlying34 rfl (by exact iMa) ?_; (case z2 => exact HN9.out.2))
                      | (refine wpList_store_row rfl 34 _ _ rfl w1.heap.size #[.slice t1 mn x1, .slice (some ⟨b2, o2, none⟩) j x2] rfl rfl 34 #[.slice ma' mn mc', .slice (some ⟨gh, oh, none⟩) j hc'] ?z3 (by exact iMa) rfl rfl ?_; (case z3 => exact HN9.out.1)))
                    go_roundw
                    case rel =>
                      refine ⟨c + 1, T ++ [k], by omega, by go_num, ?_, ?_, by rw [List.length_append, List.length_singleton]; omega⟩
                      · rw [HTT.out, show N - c = (N - (c + 1)) + 1 by omega, trR_on (by rw [HAT.out]; exact HST.out), dos_snoc, List.append_assoc]
                        rfl
                      · have J9 := HJ2.out.round (wF := (w9.setCell ⟨w1.heap.size, 0, none⟩ (.slice t1 mn x1)).setCell ⟨w1.heap.size, 1, none⟩ (.slice (some ⟨b2, o2, none⟩) j x2)) (x2 := x2) (h := h) (f := f) (bs := bs) HOx.out HUx.out HGl.out hk (by rw [HAT.out]; exact HST.out) HFT.out.len rfl HOH.out HEU.out HOB.out HJL.out HMW.out HHW.out HnD.out HF1.out HF2.out hgl _ HGA.out (by rw [HXL.out]; exact HO9.out) HG9.out (by rw [hss (hss HN9.out.1)]; rfl) (fun b hb => by rw [hso (by exact hb), hso (by exact hb)]) (by simp) (fun G => (G.setCell (by exact HGl.out) _).setCell (by exact HGl.out) _) ⟨_, HXU.out⟩
                        exact J9
                    case measure => simp [intOf]; omega
              · obtain ⟨f, hf⟩ := Int.eq_ofNat_of_zero_le f0
                obtain ⟨q, hq⟩ := Int.eq_ofNat_of_zero_le (Int.le_of_lt m0)
                have HFf : Hid (d.fro = (f : Int)) := hf
                have HQq : Hid (d.many = (q : Int)) := hq
                rw [hf] at g39
                rw [hq] at g40
                rw [hf, hq] at eu fm
                rw [hq] at m0
                simp only [Int.toNat_natCast] at eu
                have HEU : Hid (undoS (dos s0 T) k = ⟨k, h, (f : Int), (((dos s0 T).m.drop f).take q), lostN (dos s0 T) k (dos s0 T).hs.length⟩) := eu
                clear eu f0 hf hq
                have hfq : f + q ≤ mn := by omega
                have hq0 : 0 < q := by omega
                obtain ⟨mb, mo, rfl, hmb, _⟩ := HMN.out.spot (by omega)
                have hcap : mn ≤ mc' := HRM.out _ rfl (by omega)
                have HSRC : Hid (∀ W, Gr wr W → Src W (.slice (some ⟨mb, mo + f, none⟩) (((f : Int) + (q : Int)).toNat - f) (mc' - f)) q 1 (bc (((dos s0 T).m.drop f).take q))) := fun W G => by
                  rw [show ((f : Int) + (q : Int)).toNat - f = q by omega]
                  have M2 := mem_sub (f := f) (c := q) (HMN.out.of G) hfq
                  exact .inr ⟨_, _, rfl, by rw [bc_len, M2.len, Nat.mul_one], bc_src M2.len fun t ht => by have := M2.cell _ rfl t ht; rwa [add_at] at this⟩
                have HBL : Hid ((((dos s0 T).m.drop f).take q).length = q) := by unfold Hid; rw [List.length_take, List.length_drop, HMl.out]; omega
                obtain ⟨i0, hi0, hz0, hz1, hz2⟩ := info_parts info5
                have HI0 : Hid (Tryd.prog.info? 5 = some i0 ∧ i0.zero = some (.int .u8 0) ∧ i0.size = 1 ∧ i0.bytes = 1) := ⟨hi0, hz0, hz1, hz2⟩
                clear hi0 hz0 hz1 hz2
                go_wp2_with fail
                refine atW (fun W => W.heap[wr.heap.size]? = some (.cells (uL ⟨k, h, f, [], []⟩ nilS nilS).toArray 86 (0, 0)) ∧ W.heap[w1.heap.size]? = some (.cells #[.slice (some ⟨mb, mo, none⟩) mn mc', .slice (some ⟨gh, oh, none⟩) hn hc'] 34 (0, 0)) ∧ W.heap[gd]? = some (.cells (dA d) 81 (0, 0)) ∧ Gr wr W) ⟨?b1, ?b2, ?b3, ?b4⟩ ?_
                case b1 => rw [hss HUD.out, ← HXe.out, uL_set38 (u := ⟨k, h, 0, [], []⟩) HOH.out]
                case b2 => rw [hso (by exact Nat.ne_of_lt hgl)]; exact HND.out
                case b3 => rw [hso (by exact hgu)]; exact HDD.out
                case b4 => exact HGD.out.setCell (by exact Nat.le_refl _) _
                rintro wE ⟨KU, KN, KD, KG⟩
                have HUE : Hid (wE.heap[wr.heap.size]? = some (.cells (uL ⟨k, h, f, [], []⟩ nilS nilS).toArray 86 (0, 0))) := KU
                have HNE : Hid (wE.heap[w1.heap.size]? = some (.cells #[.slice (some ⟨mb, mo, none⟩) mn mc', .slice (some ⟨gh, oh, none⟩) hn hc'] 34 (0, 0))) := KN
                have HDE : Hid (wE.heap[gd]? = some (.cells (dA d) 81 (0, 0))) := KD
                have HGE : Hid (Gr wr wE) := KG
                have e39 : wE.cell? ⟨gd, 39, none⟩ = some (.int .u32 f) := by rw [cr KD, dA_fld HDd.out.1.h 2, ← HFf.out]; rfl
                have e40 : wE.cell? ⟨gd, 40, none⟩ = some (.int .i64 q) := by rw [cr KD, dA_fld HDd.out.1.h 3, ← HQq.out]; rfl
                have w39 : wE.cell? ⟨wr.heap.size, 39, none⟩ = some nilS := (cr KU).trans (by rw [List.getElem?_toArray]; exact uL_fld (u := ⟨k, h, f, [], []⟩) HOH.out 1)
                have e0 := cr0 KN
                have HSk : Hid (∀ W, Gr wE W → W.cell? ⟨w1.heap.size, 0, none⟩ = some (.slice (some ⟨mb, mo, none⟩) mn mc') ∧ W.cell? ⟨gd, 39, none⟩ = some (.int .u32 f) ∧ W.cell? ⟨gd, 40, none⟩ = some (.int .i64 q)) := fun W G => ⟨cr0 (Hr.heap_of_gr G HNE.out), by rw [cr (Hr.heap_of_gr G HDE.out), dA_fld HDd.out.1.h 2, ← HFf.out]; rfl, by rw [cr (Hr.heap_of_gr G HDE.out), dA_fld HDd.out.1.h 3, ← HQq.out]; rfl⟩
                have q1 : (0 : Int) ≤ (f : Int) + (q : Int) := by omega
                have q2 : (f : Int) + (q : Int) ≤ (mc' : Int) := by omega
                have q3 : (f : Int) ≤ (f : Int) + (q : Int) := by omega
                have q4 : ¬ mc' = f := by omega
                clear KU KN KD KG g39 g40 u38 v38 u39 n0 n1 HUD HND HDD
                refine wp_region_held_drew (S := fun W => W.cell? ⟨w1.heap.size, 0, none⟩ = some (.slice (some ⟨mb, mo, none⟩) mn mc') ∧ W.cell? ⟨gd, 39, none⟩ = some (.int .u32 f) ∧ W.cell? ⟨gd, 40, none⟩ = some (.int .i64 q)) (by kernel_rfl) ?_ (fun hHeld => ?_)
                · exact HSk.out _ (Gr.drew (Gr.refl _))
                have HT0 : Hid _ := hHeld
                clear hHeld
                refine wpAnyH_take (i := 0) (v := .pointer (some ⟨wr.heap.size, 39, none⟩)) rfl (by kernel_rfl) (by kernel_rfl) (by kernel_rfl) (fun _ _ _ h => h) (Or.inl ⟨by rfl, fun W hW => by obtain ⟨y0, y1, y2⟩ := hW; go_simp⟩) HT0.out ?_
                simp only [List.getElem_toArray, List.getElem_cons_succ, List.getElem_cons_zero, Act.put, List.setIfInBounds_toArray, List.set_cons_zero, List.set_cons_succ]
                refine wpAnyH_take (i := 2) (v := .pointer (some ⟨w1.heap.size, 0, none⟩)) rfl (by kernel_rfl) (by kernel_rfl) (by kernel_rfl) (fun _ _ _ h => h) (Or.inl ⟨by rfl, fun W hW => by obtain ⟨y0, y1, y2⟩ := hW; go_simp⟩) HT0.out ?_
                simp only [List.getElem_toArray, List.getElem_cons_succ, List.getElem_cons_zero, Act.put, List.setIfInBounds_toArray, List.set_cons_zero, List.set_cons_succ]
                refine wpAnyH_take (i := 3) (v := .slice (some ⟨mb, mo, none⟩) mn mc') rfl (by kernel_rfl) (by kernel_rfl) (by kernel_rfl) (fun _ _ _ h => h) (Or.inl ⟨by rfl, fun W hW => by obtain ⟨y0, y1, y2⟩ := hW; go_simp⟩) HT0.out ?_
                simp only [List.getElem_toArray, List.getElem_cons_succ, List.getElem_cons_zero, Act.put, List.setIfInBounds_toArray, List.set_cons_zero, List.set_cons_succ]
                refine wpAnyH_take (i := 4) (v := .pointer (some ⟨gd, 39, none⟩)) rfl (by kernel_rfl) (by kernel_rfl) (by kernel_rfl) (fun _ _ _ h => h) (Or.inl ⟨by rfl, fun W hW => by obtain ⟨y0, y1, y2⟩ := hW; go_simp⟩) HT0.out ?_
                simp only [List.getElem_toArray, List.getElem_cons_succ, List.getElem_cons_zero, Act.put, List.setIfInBounds_toArray, List.set_cons_zero, List.set_cons_succ]
                refine wpAnyH_take (i := 5) (v := .int .u32 f) rfl (by kernel_rfl) (by kernel_rfl) (by kernel_rfl) (fun _ _ _ h => h) (Or.inl ⟨by rfl, fun W hW => by obtain ⟨y0, y1, y2⟩ := hW; go_simp⟩) HT0.out ?_
                simp only [List.getElem_toArray, List.getElem_cons_succ, List.getElem_cons_zero, Act.put, List.setIfInBounds_toArray, List.set_cons_zero, List.set_cons_succ]
                refine wpAnyH_take (i := 6) (v := .int .i64 f) rfl (by kernel_rfl) (by kernel_rfl) (by kernel_rfl) (fun _ _ _ h => h) (Or.inl ⟨by rfl, fun W hW => by obtain ⟨y0, y1, y2⟩ := hW; go_simp; rw [IntKind.wrap_i64]; omega⟩) HT0.out ?_
                simp only [List.getElem_toArray, List.getElem_cons_succ, List.getElem_cons_zero, Act.put, List.setIfInBounds_toArray, List.set_cons_zero, List.set_cons_succ]
                refine wpAnyH_take (i := 7) (v := .pointer (some ⟨gd, 39, none⟩)) rfl (by kernel_rfl) (by kernel_rfl) (by kernel_rfl) (fun _ _ _ h => h) (Or.inl ⟨by rfl, fun W hW => by obtain ⟨y0, y1, y2⟩ := hW; go_simp⟩) HT0.out ?_
                simp only [List.getElem_toArray, List.getElem_cons_succ, List.getElem_cons_zero, Act.put, List.setIfInBounds_toArray, List.set_cons_zero, List.set_cons_succ]
                refine wpAnyH_take (i := 8) (v := .int .u32 f) rfl (by kernel_rfl) (by kernel_rfl) (by kernel_rfl) (fun _ _ _ h => h) (Or.inl ⟨by rfl, fun W hW => by obtain ⟨y0, y1, y2⟩ := hW; go_simp⟩) HT0.out ?_
                simp only [List.getElem_toArray, List.getElem_cons_succ, List.getElem_cons_zero, Act.put, List.setIfInBounds_toArray, List.set_cons_zero, List.set_cons_succ]
                refine wpAnyH_take (i := 9) (v := .int .i64 f) rfl (by kernel_rfl) (by kernel_rfl) (by kernel_rfl) (fun _ _ _ h => h) (Or.inl ⟨by rfl, fun W hW => by obtain ⟨y0, y1, y2⟩ := hW; go_simp; rw [IntKind.wrap_i64]; omega⟩) HT0.out ?_
                simp only [List.getElem_toArray, List.getElem_cons_succ, List.getElem_cons_zero, Act.put, List.setIfInBounds_toArray, List.set_cons_zero, List.set_cons_succ]
                refine wpAnyH_take (i := 10) (v := .pointer (some ⟨gd, 40, none⟩)) rfl (by kernel_rfl) (by kernel_rfl) (by kernel_rfl) (fun _ _ _ h => h) (Or.inl ⟨by rfl, fun W hW => by obtain ⟨y0, y1, y2⟩ := hW; go_simp⟩) HT0.out ?_
                simp only [List.getElem_toArray, List.getElem_cons_succ, List.getElem_cons_zero, Act.put, List.setIfInBounds_toArray, List.set_cons_zero, List.set_cons_succ]
                refine wpAnyH_take (i := 11) (v := .int .i64 q) rfl (by kernel_rfl) (by kernel_rfl) (by kernel_rfl) (fun _ _ _ h => h) (Or.inl ⟨by rfl, fun W hW => by obtain ⟨y0, y1, y2⟩ := hW; go_simp⟩) HT0.out ?_
                simp only [List.getElem_toArray, List.getElem_cons_succ, List.getElem_cons_zero, Act.put, List.setIfInBounds_toArray, List.set_cons_zero, List.set_cons_succ]
                refine wpAnyH_take (i := 12) (v := .int .i64 ((f : Int) + (q : Int))) rfl (by kernel_rfl) (by kernel_rfl) (by kernel_rfl) (fun _ _ _ h => h) (Or.inl ⟨by rfl, fun W hW => by obtain ⟨y0, y1, y2⟩ := hW; go_simp; rw [IntKind.wrap_i64]; omega⟩) HT0.out ?_
                simp only [List.getElem_toArray, List.getElem_cons_succ, List.getElem_cons_zero, Act.put, List.setIfInBounds_toArray, List.set_cons_zero, List.set_cons_succ]
                refine wpAnyH_take (i := 13) (v := .slice (some ⟨mb, mo + f, none⟩) (((f : Int) + (q : Int)).toNat - f) (mc' - f)) rfl (by kernel_rfl) (by kernel_rfl) (by kernel_rfl) (fun _ _ _ h => h) (Or.inl ⟨by rfl, fun W hW => by obtain ⟨y0, y1, y2⟩ := hW; go_simp⟩) HT0.out ?_
                simp only [List.getElem_toArray, List.getElem_cons_succ, List.getElem_cons_zero, Act.put, List.setIfInBounds_toArray, List.set_cons_zero, List.set_cons_succ]
                refine wpAnyH_ready (rs := [1]) (by kernel_rfl) (by simp) ?_
                refine AllReadyH.cons rfl (fun K hK => ?_) AllReadyH.nil
                go_simp
                refine hK.out _ _ HT0.out (fun hx => ?_)
                clear hK K hx
                refine wpAnyH_ready (rs := [14]) (by kernel_rfl) (by simp) ?_
                refine AllReadyH.cons rfl (fun K hK => ?_) AllReadyH.nil
                refine step_append_src (base := 0) (n := 0) (m := q) rfl (.tmp 68) (.tmp 80) rfl Tryd.underlying31 HI0.out.1 HI0.out.2.1 HI0.out.2.2.1 HI0.out.2.2.2 rfl (by decide) (v := nilS) (by simp [Act.eval, Act.put]) (by simp [Act.eval, Act.put]) (World.ownsRow_nil _ _ _ _) (HSRC.out _ (Gr.drew HGE.out)) (bc_one _) (by unfold maxLen; omega) (by omega) (Nat.zero_le _) ?_
                intro v7 w7 hown hgrow
                simp only [Nat.zero_add, List.nil_append] at hown
                obtain ⟨g7, cp7, rfl⟩ := own_form hown (by omega)
                have HO7 : Hid (Hc.Own w7 0 (.slice (some ⟨g7, 0, none⟩) q cp7) (((dos s0 T).m.drop f).take q)) := own_of HBL.out hown
                have HG7 : Hid (Gr wE w7) := Gr.grown (Gr.drew (Gr.refl _)) hgrow (fun k e => by cases e)
                have c7 : w7.cell? ⟨wr.heap.size, 39, none⟩ = some nilS := (cr (Hr.heap_of_gr HG7.out HUE.out)).trans (by rw [List.getElem?_toArray]; exact uL_fld (u := ⟨k, h, f, [], []⟩) HOH.out 1)
                have f7 : w7.frozen? ⟨wr.heap.size, 39, none⟩ = false := fzr (Hr.heap_of_gr HG7.out HUE.out)
                have HT7 : Hid (w7.cell? ⟨w1.heap.size, 0, none⟩ = some (.slice (some ⟨mb, mo, none⟩) mn mc') ∧ w7.cell? ⟨gd, 39, none⟩ = some (.int .u32 f) ∧ w7.cell? ⟨gd, 40, none⟩ = some (.int .i64 q)) := HSk.out _ HG7.out
                have HT8 : Hid ((w7.setCell ⟨wr.heap.size, 39, none⟩ (.slice (some ⟨g7, 0, none⟩) q cp7)).cell? ⟨w1.heap.size, 0, none⟩ = some (.slice (some ⟨mb, mo, none⟩) mn mc') ∧ (w7.setCell ⟨wr.heap.size, 39, none⟩ (.slice (some ⟨g7, 0, none⟩) q cp7)).cell? ⟨gd, 39, none⟩ = some (.int .u32 f) ∧ (w7.setCell ⟨wr.heap.size, 39, none⟩ (.slice (some ⟨g7, 0, none⟩) q cp7)).cell? ⟨gd, 40, none⟩ = some (.int .i64 q)) := ⟨(World.cell?_of_block (hso (by exact Nat.ne_of_lt hgl))).trans HT7.out.1, (World.cell?_of_block (hso (by exact hgu))).trans HT7.out.2.1, (World.cell?_of_block (hso (by exact hgu))).trans HT7.out.2.2⟩
                refine hK.out _ _ HT7.out (fun hx => ?_)
                clear hK K hx hgrow hown
                refine wpAnyH_take (i := 15) (v := .pointer (some ⟨wr.heap.size, 39, none⟩)) rfl (by kernel_rfl) (by kernel_rfl) (by kernel_rfl) (fun _ _ _ h => h) (Or.inl ⟨by rfl, fun W hW => by obtain ⟨y0, y1, y2⟩ := hW; go_simp⟩) HT7.out ?_
                simp only [List.getElem_toArray, List.getElem_cons_succ, List.getElem_cons_zero, Act.put, List.setIfInBounds_toArray, List.set_cons_zero, List.set_cons_succ]
                refine wpAnyH_ready (rs := [16]) (by kernel_rfl) (by simp) ?_
                refine AllReadyH.cons rfl (fun K hK => ?_) AllReadyH.nil
                go_simp
                refine hK.out _ _ HT8.out (fun hx => ?_)
                clear hK K hx
                refine wpAnyH_done (by kernel_rfl) ?_ _
                refine atW (fun W => W.heap[wr.heap.size]? = some (.cells (uL ⟨k, h, f, [], []⟩ (.slice (some ⟨g7, 0, none⟩) q cp7) nilS).toArray 86 (0, 0)) ∧ W.heap[w1.heap.size]? = some (.cells #[.slice (some ⟨mb, mo, none⟩) mn mc', .slice (some ⟨gh, oh, none⟩) hn hc'] 34 (0, 0)) ∧ Gr wr W ∧ Hc.Own W 0 (.slice (some ⟨g7, 0, none⟩) q cp7) (((dos s0 T).m.drop f).take q)) ⟨?c1, ?c2, ?c3, ?c4⟩ ?_
                case c1 => rw [hss (Hr.heap_of_gr HG7.out HUE.out), uL_set39 (u := ⟨k, h, f, [], []⟩) HOH.out]
                case c2 => rw [hso (by exact Nat.ne_of_lt hgl)]; exact Hr.heap_of_gr HG7.out HNE.out
                case c3 => exact (HGE.out.trans HG7.out).setCell (by exact Nat.le_refl _) _
                case c4 => exact HO7.out.to fun z ob fz hz => hso (by exact ne_of_types hz (Hr.heap_of_gr HG7.out HUE.out) (by decide))
                rintro wG ⟨KU, KN, KG, KO⟩
                have HUG : Hid (wG.heap[wr.heap.size]? = some (.cells (uL ⟨k, h, f, [], []⟩ (.slice (some ⟨g7, 0, none⟩) q cp7) nilS).toArray 86 (0, 0))) := KU
                have HNG : Hid (wG.heap[w1.heap.size]? = some (.cells #[.slice (some ⟨mb, mo, none⟩) mn mc', .slice (some ⟨gh, oh, none⟩) hn hc'] 34 (0, 0))) := KN
                have HGG : Hid (Gr wr wG) := KG
                have HOG : Hid (Hc.Own wG 0 (.slice (some ⟨g7, 0, none⟩) q cp7) (((dos s0 T).m.drop f).take q)) := KO
                have n0 := cr0 KN
                have n1 := cr1 KN
                clear KU KN KG KO HUE HNE HDE HGE e39 e40 w39 e0 HSk HT0 HT7 HT8 c7 f7 HO7 HG7 q1 q2 q3 q4 HSRC
                go_wp2_with fail
                refine (HPw.out _ _ _ (HGG.out.alloc _) (heap_alloc_new wG _)).mono ?_
                rintro e w6 ⟨v, rfl, S6, G6⟩
                obtain ⟨t1, x1, t2, x2, t3, x3, rfl, hM6, hH6, _, fr6, fh6⟩ := S6
                rw [HP1.out.2] at hM6
                rw [HP1.out.1] at hH6
                have HM6 : Hid (Mem w6 t1 mn (stepS (dos s0 T) k).m ∧ Hs w6 t2 hn (stepS (dos s0 T) k).hs ∧ (∀ ad, t1 = some ad → 0 < mn → wG.heap.size ≤ ad.block ∧ mn ≤ x1) ∧ (∀ ad, t2 = some ad → wG.heap.size ≤ ad.block)) := ⟨hM6, hH6, fun ad e h0 => by have := fr6 ad e h0; simp at this; omega, fun ad e => by have := fh6 ad e; simp at this; omega⟩
                have HG6 : Hid (Gr wG w6) := ((Gr.refl _).alloc _).trans G6
                clear hM6 hH6 fr6 fh6 G6 HPw
                go_wp2_with (refine wpList_field rfl 40 _ 0 rfl _ rfl field_shown ?_)
                simp only [Nat.add_sub_cancel_left]
                clear hmb hcap HBL
                have HUW : Hid (wr.heap.size < wG.heap.size) := (gs HUG.out).1
                refine atW (fun W => ∃ (f : Int) (B : Value) (bs : List UInt8) (nD : Nat), W.heap[wr.heap.size]? = some (.cells (uL ⟨k, h, f, [], []⟩ B nilS).toArray 86 (0, 0)) ∧ Hc.Own W 0 B bs ∧ undoS (dos s0 T) k = ⟨k, h, f, bs, lostN (dos s0 T) k (dos s0 T).hs.length⟩ ∧ W.heap[w1.heap.size]? = some (.cells #[.slice (some ⟨mb, mo, none⟩) mn mc', .slice (some ⟨gh, oh, none⟩) hn hc'] 34 (0, 0)) ∧ W.heap[w6.heap.size]? = some (.cells #[.slice t1 mn x1, .slice t2 hn x2] 34 (0, 0)) ∧ Mem W t1 mn (stepS (dos s0 T) k).m ∧ Hs W t2 hn (stepS (dos s0 T) k).hs ∧ Gr wr W ∧ wr.heap.size < nD ∧ (∀ ad, t1 = some ad → 0 < mn → nD ≤ ad.block ∧ mn ≤ x1) ∧ (∀ ad, t2 = some ad → nD ≤ ad.block) ∧ w6.heap.size ≠ wr.heap.size) ⟨f, .slice (some ⟨g7, 0, none⟩) q cp7, (((dos s0 T).m.drop f).take q), wG.heap.size, Hr.heap_of_gr (HG6.out.alloc _) HUG.out, own_gr HOG.out (HG6.out.alloc _), HEU.out, Hr.heap_of_gr (HG6.out.alloc _) HNG.out, heap_alloc_new w6 _, HM6.out.1.of ((Gr.refl _).alloc _), HM6.out.2.1.of ((Gr.refl _).alloc _), (HGG.out.trans HG6.out).alloc _, HUW.out, HM6.out.2.2.1, HM6.out.2.2.2, by have := HG6.out.size; have := HUW.out; omega⟩ ?_
                rintro W7 ⟨f, B, bs, nD, aXU, aOB, aEU, aNW, aNX, aMW, aHW, aGW, anD, aF1, aF2, aG12⟩
                have HXU : Hid (W7.heap[wr.heap.size]? = some (.cells (uL ⟨k, h, f, [], []⟩ B nilS).toArray 86 (0, 0))) := aXU
                have HOB : Hid (Hc.Own W7 0 B bs) := aOB
                have HBo : Hid (B.oneCell' = true) := by unfold Hid; obtain ⟨_, _, e, _⟩ := aOB.mem; rw [e]; rfl
                have HEU : Hid (undoS (dos s0 T) k = ⟨k, h, f, bs, lostN (dos s0 T) k (dos s0 T).hs.length⟩) := aEU
                have HNW : Hid (W7.heap[w1.heap.size]? = some (.cells #[.slice (some ⟨mb, mo, none⟩) mn mc', .slice (some ⟨gh, oh, none⟩) hn hc'] 34 (0, 0))) := aNW
                obtain ⟨b2, o2, rfl, hb2, hr2⟩ := aHW.spot c0
                have HNX7 : Hid (W7.heap[w6.heap.size]? = some (.cells #[.slice t1 mn x1, .slice (some ⟨b2, o2, none⟩) hn x2] 34 (0, 0))) := aNX
                have HMW : Hid (Mem W7 t1 mn (stepS (dos s0 T) k).m) := aMW
                have HHW : Hid (Hs W7 (some ⟨b2, o2, none⟩) hn (stepS (dos s0 T) k).hs) := aHW
                have HRX : Hid (∀ i h, (stepS (dos s0 T) k).hs[i]? = some h → W7.rangeAt b2 (o2 + i * 37) (hL h)) := hr2
                have HGW : Hid (Gr wr W7) := aGW
                have HRN : Hid (∀ i h, (dos s0 T).hs[i]? = some h → W7.rangeAt gh (oh + i * 37) (hL h)) := by
                  obtain ⟨b3, o3, e3, _, hr3⟩ := (HHN.out.of aGW).spot c0
                  injection e3 with e3
                  injection e3 with e4 e5
                  subst e4 e5
                  exact hr3
                have HnD : Hid (wr.heap.size < nD) := anD
                have HF1 : Hid (∀ ad, t1 = some ad → 0 < mn → nD ≤ ad.block ∧ mn ≤ x1) := aF1
                have HF2 : Hid (∀ ad : Addr, some (⟨b2, o2, none⟩ : Addr) = some ad → nD ≤ ad.block) := aF2
                have HB2 : Hid (b2 ≠ wr.heap.size) := by have := aF2 _ rfl; unfold Hid; simp only at this; omega
                have HG12 : Hid (w6.heap.size ≠ wr.heap.size) := aG12
                have HUB : Hid (wr.heap.size < W7.heap.size) := (gs aXU).1
                have HGHW : Hid (gh < W7.heap.size) := Nat.lt_of_lt_of_le hgh aGW.size
                have HGl : Hid (w.heap.size ≤ w1.heap.size) := HG1.out.size
                have HSTL : Hid ((stp (at' (dos s0 T) k) (dos s0 T).m).sto.length ≤ 1) := by unfold Hid; rw [HAT.out]; exact (stp_sto HOH.out _).2
                clear aXU aOB aEU aNW aNX aMW aHW aGW anD aF1 aF2 aG12 hr2
                go_loopw [13] (fun jv wq => ∃ (j : Nat) (L : Value), j ≤ hn ∧ jv = .int .i64 j ∧ Jl wr W7 wr.heap.size (dos s0 T) k h f B L wq j) (fun jv _ => hn - (intOf jv).toNat)
                case atStart => exact ⟨0, nilS, Nat.zero_le _, rfl, HXU.out, by rw [lostN_zero]; exact World.ownsRow_nil _ _ _ _, Ex.refl _ _, HGW.out⟩
                case round =>
                  rename World => w3
                  obtain ⟨j, L, hj, rfl, JL⟩ := hrel
                  obtain ⟨_, _, la, lc, rfl⟩ := owns_cells JL.row
                  have HJL : Hid (Jl wr W7 wr.heap.size (dos s0 T) k h f B _ w3 j) := JL
                  have y0 : w3.cell? ⟨w6.heap.size, 1, none⟩ = some (.slice (some ⟨b2, o2, none⟩) hn x2) := cr1 (JL.ex.row HNX7.out HG12.out)
                  have y1 : w3.cell? ⟨w1.heap.size, 1, none⟩ = some (.slice (some ⟨gh, oh, none⟩) hn hc') := cr1 (JL.ex.row HNW.out (Nat.ne_of_lt hgl))
                  have HY1 : Hid _ := y1
                  clear JL
                  by_cases hjl : j < hn
                  · obtain ⟨q, hq⟩ : ∃ q, (dos s0 T).hs[j]? = some q := ⟨_, List.getElem?_eq_getElem (by rw [HFT.out.len]; exact hjl)⟩
                    obtain ⟨p, hp⟩ : ∃ p, (stepS (dos s0 T) k).hs[j]? = some p := ⟨_, List.getElem?_eq_getElem (by rw [HHW.out.len]; exact hjl)⟩
                    have HEQ : Hid ((dos s0 T).hs[j]? = some q) := hq
                    have HOQ : Hid q.Ok := HHN.out.ok _ (List.mem_of_getElem? hq)
                    have okp : p.Ok := HHW.out.ok _ (List.mem_of_getElem? hp)
                    have r33 : w3.cell? ⟨gh, oh + j * 37 + 33, none⟩ = some (.bool q.held) := HJL.out.ex.range (HRN.out j q hq) HGHW.out (Nat.ne_of_lt hgh) 33 _ (hL_fld HOQ.out 1)
                    have r34 : w3.cell? ⟨gh, oh + j * 37 + 34, none⟩ = some (.int .u32 q.heldAt) := HJL.out.ex.range (HRN.out j q hq) HGHW.out (Nat.ne_of_lt hgh) 34 _ (hL_fld HOQ.out 2)
                    have HR34 : Hid _ := r34
                    have z33 : w3.cell? ⟨b2, o2 + j * 37 + 33, none⟩ = some (.bool p.held) := HJL.out.ex.range (HRX.out j p hp) hb2 HB2.out 33 _ (hL_fld okp 1)
                    have HLS : Hid (lostN (dos s0 T) k (j + 1) = lostN (dos s0 T) k j ++ (if j ≠ k ∧ q.held = true ∧ p.held = false then [((j : Int), q.heldAt)] else [])) := by
                      have := lostN_succ (s := dos s0 T) (k := k) (j := j) (by rw [HFT.out.len]; exact hjl) HSTL.out
                      rw [show (dos s0 T).hs.getD j Mc.hN = q by simp [List.getD, hq], show (stepS (dos s0 T) k).hs.getD j Mc.hN = p by simp [List.getD, hp]] at this
                      exact this
                    have hll := lostN_len (dos s0 T) k j (by rw [HFT.out.len]; omega) HSTL.out
                    have u40 : w3.cell? ⟨wr.heap.size, 40, none⟩ = some (.slice la (lostN (dos s0 T) k j).length lc) := (cr HJL.out.blk).trans (by rw [List.getElem?_toArray]; exact uL_fld (u := ⟨k, h, f, [], []⟩) HOH.out 2)
                    clear hq hp okp
                    by_cases hjk : j = k
                    · have hne : ((j : Int) != (k : Int)) = false := by simp [hjk]
                      have HN : Hid (lostN (dos s0 T) k (j + 1) = lostN (dos s0 T) k j) := by unfold Hid; rw [HLS.out, if_neg (fun h => h.1 hjk), List.append_nil]
                      clear hjk HLS
                      go_wp2_with fail
                      go_roundw
                      case rel => exact ⟨j + 1, _, by omega, by go_num, HJL.out.skip HN.out⟩
                      case measure => simp [intOf]; omega
                    · have hne : ((j : Int) != (k : Int)) = true := by simp; omega
                      cases hqh : q.held with
                      | false =>
                        rw [hqh] at r33
                        have HN : Hid (lostN (dos s0 T) k (j + 1) = lostN (dos s0 T) k j) := by unfold Hid; rw [HLS.out, if_neg (fun h => by rw [hqh] at h; exact absurd h.2.1 (by simp)), List.append_nil]
                        clear hjk HLS hqh
                        go_wp2_with fail
                        go_roundw
                        case rel => exact ⟨j + 1, _, by omega, by go_num, HJL.out.skip HN.out⟩
                        case measure => simp [intOf]; omega
                      | true =>
                        rw [hqh] at r33
                        cases hph : p.held with
                        | true =>
                          rw [hph] at z33
                          have HN : Hid (lostN (dos s0 T) k (j + 1) = lostN (dos s0 T) k j) := by unfold Hid; rw [HLS.out, if_neg (fun h => by rw [hph] at h; exact absurd h.2.2 (by simp)), List.append_nil]
                          clear hjk HLS hqh hph
                          go_wp2_with fail
                          go_roundw
                          case rel => exact ⟨j + 1, _, by omega, by go_num, HJL.out.skip HN.out⟩
                          case measure => simp [intOf]; omega
                        | false =>
                          rw [hph] at z33
                          have HN : Hid (lostN (dos s0 T) k (j + 1) = lostN (dos s0 T) k j ++ [((j : Int), q.heldAt)]) := by unfold Hid; rw [HLS.out, if_pos ⟨hjk, hqh, hph⟩]
                          have hub3 : wr.heap.size < w3.heap.size := (gs HJL.out.blk).1
                          obtain ⟨i0, hi0, hz0, hz1, hz2⟩ := info_parts infoL
                          clear hjk HLS hqh hph
                          go_wp2_with fail
                          refine wp_region_held_drew (S := fun W => W.cell? ⟨w1.heap.size, 1, none⟩ = some (.slice (some ⟨gh, oh, none⟩) hn hc') ∧ W.cell? ⟨gh, oh + j * 37 + 34, none⟩ = some (.int .u32 q.heldAt)) (by kernel_rfl) ?_ (fun hHeld => ?_)
                          · exact ⟨y1, r34⟩
                          have HT0 : Hid _ := hHeld
                          clear hHeld
                          refine wpAnyH_take (i := 0) (v := .pointer (some ⟨wr.heap.size, 40, none⟩)) rfl (by kernel_rfl) (by kernel_rfl) (by kernel_rfl) (fun _ _ _ h => h) (Or.inl ⟨by rfl, fun W hW => by obtain ⟨q1, q2⟩ := hW; go_simp⟩) HT0.out ?_
                          simp only [List.getElem_toArray, List.getElem_cons_succ, List.getElem_cons_zero, Act.put, List.setIfInBounds_toArray, List.set_cons_zero, List.set_cons_succ]
                          refine wpAnyH_take (i := 2) (v := .int .i64 j) rfl (by kernel_rfl) (by kernel_rfl) (by kernel_rfl) (fun _ _ _ h => h) (Or.inl ⟨by rfl, fun W hW => by obtain ⟨q1, q2⟩ := hW; go_simp⟩) HT0.out ?_
                          simp only [List.getElem_toArray, List.getElem_cons_succ, List.getElem_cons_zero, Act.put, List.setIfInBounds_toArray, List.set_cons_zero, List.set_cons_succ]
                          refine wpAnyH_take (i := 3) (v := .pointer (some ⟨w1.heap.size, 1, none⟩)) rfl (by kernel_rfl) (by kernel_rfl) (by kernel_rfl) (fun _ _ _ h => h) (Or.inl ⟨by rfl, fun W hW => by obtain ⟨q1, q2⟩ := hW; go_simp⟩) HT0.out ?_
                          simp only [List.getElem_toArray, List.getElem_cons_succ, List.getElem_cons_zero, Act.put, List.setIfInBounds_toArray, List.set_cons_zero, List.set_cons_succ]
                          refine wpAnyH_take (i := 4) (v := .slice (some ⟨gh, oh, none⟩) hn hc') rfl (by kernel_rfl) (by kernel_rfl) (by kernel_rfl) (fun _ _ _ h => h) (Or.inl ⟨by rfl, fun W hW => by obtain ⟨q1, q2⟩ := hW; go_simp⟩) HT0.out ?_
                          simp only [List.getElem_toArray, List.getElem_cons_succ, List.getElem_cons_zero, Act.put, List.setIfInBounds_toArray, List.set_cons_zero, List.set_cons_succ]
                          refine wpAnyH_take (i := 5) (v := .int .i64 j) rfl (by kernel_rfl) (by kernel_rfl) (by kernel_rfl) (fun _ _ _ h => h) (Or.inl ⟨by rfl, fun W hW => by obtain ⟨q1, q2⟩ := hW; go_simp⟩) HT0.out ?_
                          simp only [List.getElem_toArray, List.getElem_cons_succ, List.getElem_cons_zero, Act.put, List.setIfInBounds_toArray, List.set_cons_zero, List.set_cons_succ]
                          refine wpAnyH_take (i := 6) (v := .pointer (some ⟨gh, oh + j * 37, none⟩)) rfl (by kernel_rfl) (by kernel_rfl) (by kernel_rfl) (fun _ _ _ h => h) (Or.inl ⟨by rfl, fun W hW => by obtain ⟨q1, q2⟩ := hW; go_simp⟩) HT0.out ?_
                          simp only [List.getElem_toArray, List.getElem_cons_succ, List.getElem_cons_zero, Act.put, List.setIfInBounds_toArray, List.set_cons_zero, List.set_cons_succ]
                          refine wpAnyH_take (i := 7) (v := .pointer (some ⟨gh, oh + j * 37 + 34, none⟩)) rfl (by kernel_rfl) (by kernel_rfl) (by kernel_rfl) (fun _ _ _ h => h) (Or.inl ⟨by rfl, fun W hW => by obtain ⟨q1, q2⟩ := hW; go_simp⟩) HT0.out ?_
                          simp only [List.getElem_toArray, List.getElem_cons_succ, List.getElem_cons_zero, Act.put, List.setIfInBounds_toArray, List.set_cons_zero, List.set_cons_succ]
                          refine wpAnyH_take (i := 8) (v := .int .u32 q.heldAt) rfl (by kernel_rfl) (by kernel_rfl) (by kernel_rfl) (fun _ _ _ h => h) (Or.inl ⟨by rfl, fun W hW => by obtain ⟨q1, q2⟩ := hW; go_simp⟩) HT0.out ?_
                          simp only [List.getElem_toArray, List.getElem_cons_succ, List.getElem_cons_zero, Act.put, List.setIfInBounds_toArray, List.set_cons_zero, List.set_cons_succ]
                          refine wpAnyH_take (i := 9) (v := .agg #[.int .i64 j, .int .u32 q.heldAt]) rfl (by kernel_rfl) (by kernel_rfl) (by kernel_rfl) (fun _ _ _ h => h) (Or.inl ⟨by rfl, fun W hW => by obtain ⟨q1, q2⟩ := hW; go_simp⟩) HT0.out ?_
                          simp only [List.getElem_toArray, List.getElem_cons_succ, List.getElem_cons_zero, Act.put, List.setIfInBounds_toArray, List.set_cons_zero, List.set_cons_succ]
                          have HSa : Hid (∀ Z : Obj, (w3.drew.alloc Z).cell? ⟨w1.heap.size, 1, none⟩ = some (.slice (some ⟨gh, oh, none⟩) hn hc') ∧ (w3.drew.alloc Z).cell? ⟨gh, oh + j * 37 + 34, none⟩ = some (.int .u32 q.heldAt)) := fun Z => ⟨((Gr.alloc (Gr.drew (Gr.refl w3)) Z).cell _ (by exact Nat.lt_of_lt_of_le hgl HJL.out.gr.size)).trans HY1.out, ((Gr.alloc (Gr.drew (Gr.refl w3)) Z).cell _ (by exact Nat.lt_of_lt_of_le hgh HJL.out.gr.size)).trans HR34.out⟩
                          have HGA : Hid (Gr w3 (w3.drew.alloc (.cells #[.int .i64 j, .int .u32 q.heldAt] 88))) := Gr.alloc (Gr.drew (Gr.refl _)) _
                          have HXc : Hid (∀ jj u, [Value.int .i64 j, Value.int .u32 q.heldAt][jj]? = some u → (w3.drew.alloc (.cells #[.int .i64 j, .int .u32 q.heldAt] 88)).cell? ((⟨w3.drew.heap.size, 0, none⟩ : Addr).add jj) = some u) := fun jj u hh => by
                            rw [add_at, Nat.zero_add, cr (heap_alloc_new w3.drew (.cells #[.int .i64 j, .int .u32 q.heldAt] 88))]
                            rw [← List.getElem?_toArray] at hh
                            exact hh
                          apply shareP
                          · intro CONT
                            refine wpAnyH_ready (rs := [1, 10]) (by kernel_rfl) (by simp) ?_
                            refine AllReadyH.cons rfl (fun K hK => ?_) (AllReadyH.cons rfl (fun K hK => ?_) AllReadyH.nil)
                            · go_simp
                              refine hK.out _ _ HT0.out (fun hx => ?_)
                              clear hK K hx
                              refine wpAnyH_ready (rs := [10]) (by kernel_rfl) (by simp) ?_
                              refine AllReadyH.cons rfl (fun K hK => ?_) AllReadyH.nil
                              refine step_slice1 rfl 84 88 (.tmp 125) rfl #[.int .i64 j, .int .u32 q.heldAt] 2 (by simp [Act.eval, Act.put]) rfl Tryd.underlying84 iLz (by decide) (by decide) ?_
                              refine hK.out _ _ (HSa.out _) (fun hx => ?_)
                              clear hK K hx
                              simp only [List.getElem_toArray, List.getElem_cons_succ, List.getElem_cons_zero, Act.put, List.setIfInBounds_toArray, List.set_cons_zero, List.set_cons_succ]
                              exact CONT.out
                            · refine step_slice1 rfl 84 88 (.tmp 125) rfl #[.int .i64 j, .int .u32 q.heldAt] 2 (by simp [Act.eval, Act.put]) rfl Tryd.underlying84 iLz (by decide) (by decide) ?_
                              refine hK.out _ _ (HSa.out _) (fun hx => ?_)
                              clear hK K hx
                              simp only [List.getElem_toArray, List.getElem_cons_succ, List.getElem_cons_zero, Act.put, List.setIfInBounds_toArray, List.set_cons_zero, List.set_cons_succ]
                              refine wpAnyH_ready (rs := [1]) (by kernel_rfl) (by simp) ?_
                              refine AllReadyH.cons rfl (fun K hK => ?_) AllReadyH.nil
                              go_simp
                              refine hK.out _ _ (HSa.out _) (fun hx => ?_)
                              clear hK K hx
                              exact CONT.out
                          refine wpAnyH_ready (rs := [11]) (by kernel_rfl) (by simp) ?_
                          refine AllReadyH.cons rfl (fun K hK => ?_) AllReadyH.nil
                          refine step_append_own rfl (.tmp 117) (.tmp 126) 84 rfl W7.heap.size 88 i0 (.agg #[.int .i64 0, .int .u32 0]) 2 16 Tryd.underlying84 hi0 hz0 hz1 hz2 rfl (by decide) (.slice la (lostN (dos s0 T) k j).length lc) (lostN (dos s0 T) k j).length (lsI (lostN (dos s0 T) k j)) (by simp [Act.eval, Act.put]) (owns_gr HJL.out.row HGA.out) ⟨w3.drew.heap.size, 0, none⟩ 1 1 [.int .i64 j, .int .u32 q.heldAt] (by simp [Act.eval, Act.put]) rfl HXc.out (two_lost _ _) (by unfold maxLen; omega) (by omega) (by have := HGA.out.size; have := HJL.out.ex.size; omega) ?_
                          intro v' w8 hown hgrow
                          obtain ⟨g', cp, rfl⟩ := own_form hown (by omega)
                          obtain ⟨e8, x8, J8⟩ := HJL.out.app HOH.out HUB.out (Nat.le_refl _) HGA.out hgrow hown HN.out
                          have HJ8 : Hid (Jl wr W7 wr.heap.size (dos s0 T) k h f B _ _ (j + 1)) := J8
                          have c8 : w8.cell? ⟨wr.heap.size, 40, none⟩ = some (.slice la (lostN (dos s0 T) k j).length lc) := (cr e8).trans (by rw [List.getElem?_toArray]; exact uL_fld (u := ⟨k, h, f, [], []⟩) HOH.out 2)
                          have f8 : w8.frozen? ⟨wr.heap.size, 40, none⟩ = false := fzr e8
                          have HT8 : Hid (w8.cell? ⟨w1.heap.size, 1, none⟩ = some (.slice (some ⟨gh, oh, none⟩) hn hc') ∧ w8.cell? ⟨gh, oh + j * 37 + 34, none⟩ = some (.int .u32 q.heldAt)) := ⟨cr1 (x8.row HNW.out (Nat.ne_of_lt hgl)), x8.range (HRN.out j q HEQ.out) HGHW.out (Nat.ne_of_lt hgh) 34 _ (hL_fld HOQ.out 2)⟩
                          have HT9 : Hid ((w8.setCell ⟨wr.heap.size, 40, none⟩ (.slice (some ⟨g', 0, none⟩) ((lostN (dos s0 T) k j).length + 1) cp)).cell? ⟨w1.heap.size, 1, none⟩ = some (.slice (some ⟨gh, oh, none⟩) hn hc') ∧ (w8.setCell ⟨wr.heap.size, 40, none⟩ (.slice (some ⟨g', 0, none⟩) ((lostN (dos s0 T) k j).length + 1) cp)).cell? ⟨gh, oh + j * 37 + 34, none⟩ = some (.int .u32 q.heldAt)) := ⟨cr1 (HJ8.out.ex.row HNW.out (Nat.ne_of_lt hgl)), HJ8.out.ex.range (HRN.out j q HEQ.out) HGHW.out (Nat.ne_of_lt hgh) 34 _ (hL_fld HOQ.out 2)⟩
                          clear J8 e8 x8 hown
                          refine hK.out _ _ HT8.out (fun hx => ?_)
                          clear hK K hx hgrow
                          refine wpAnyH_take (i := 12) (v := .pointer (some ⟨wr.heap.size, 40, none⟩)) rfl (by kernel_rfl) (by kernel_rfl) (by kernel_rfl) (fun _ _ _ h => h) (Or.inl ⟨by rfl, fun W hW => by obtain ⟨q1, q2⟩ := hW; go_simp⟩) HT8.out ?_
                          simp only [List.getElem_toArray, List.getElem_cons_succ, List.getElem_cons_zero, Act.put, List.setIfInBounds_toArray, List.set_cons_zero, List.set_cons_succ]
                          refine wpAnyH_ready (rs := [13]) (by kernel_rfl) (by simp) ?_
                          refine AllReadyH.cons rfl (fun K hK => ?_) AllReadyH.nil
                          go_simp
                          refine hK.out _ _ HT9.out (fun hx => ?_)
                          clear hK K hx
                          refine wpAnyH_done (by kernel_rfl) ?_ _
                          go_wp2_with fail
                          go_roundw
                          case rel => exact ⟨j + 1, _, by omega, by go_num, HJ8.out⟩
                          case measure => simp [intOf]; omega
                  · have ej : j = hn := by omega
                    subst ej
                    obtain ⟨xs, hO, hU⟩ := HJ2.out.row
                    have HOx : Hid (wr.ownsRow (w1.heap.size + 1) 86 41 u5 T.length xs) := hO
                    have HUx : Hid (Ux wr (uns s0 T) xs) := hU
                    obtain ⟨XL, hXL⟩ : ∃ XL, uL ⟨k, h, f, [], []⟩ B (.slice la (lostN (dos s0 T) k j).length lc) = XL := ⟨_, rfl⟩
                    have HXL : Hid (uL ⟨k, h, f, [], []⟩ B (.slice la (lostN (dos s0 T) k j).length lc) = XL) := hXL
                    have HXl : Hid (XL.length = 41) := by unfold Hid; rw [← hXL]; exact uL_len (u := ⟨k, h, f, [], []⟩) HOH.out
                    have HXa : Hid (XL.toArray.size = 41) := by unfold Hid; rw [List.size_toArray]; exact HXl.out
                    have HXo : Hid (∀ v ∈ XL, v.oneCell' = true) := by unfold Hid; rw [← hXL]; exact uL_one HBo.out rfl
                    have HXb : Hid (w3.heap[wr.heap.size]? = some (.cells XL.toArray 86 (0, 0))) := by unfold Hid; rw [← hXL]; exact HJL.out.blk
                    have HGA : Hid (Gr w3 (w3.alloc (.cells XL.toArray 86))) := (Gr.refl _).alloc _
                    have HXc : Hid (∀ j u, XL[j]? = some u → (w3.alloc (.cells XL.toArray 86)).cell? ((⟨w3.heap.size, 0, none⟩ : Addr).add j) = some u) := fun j u hj => by
                      rw [add_at, Nat.zero_add, cr (heap_alloc_new w3 (.cells XL.toArray 86)), List.getElem?_toArray]
                      exact hj
                    have hw3 : wr.heap.size ≤ w3.heap.size := HJL.out.gr.size
                    obtain ⟨i0, hi0, hz0, hz1, hz2⟩ := info_parts infoU
                    clear hO hU hXL
                    go_wp2_with (first
                      | (refine wpList_load_row rfl 86 _ rfl wr.heap.size rfl 86 XL.toArray (0, 0) _ ?z1 Tryd.underlying86 rfl (by rw [HXa.out]; exact iU) ?_; (case z1 => exact HXb.out))
                      | (refine wpList_slice1 rfl 41 86 (.tmp 130) rfl XL.toArray 41 rfl HXa.out Tryd.underlying41 iUz (by decide) (by decide) ?_)
                      | (at_builtin; refine wpList_append_own _ rfl (.tmp 129) (.tmp 131) 41 rfl (w1.heap.size + 1) 86 i0 _ 41 224 Tryd.underlying41 hi0 hz0 hz1 hz2 (by simp [Value.cells, uL_len (u := h00) h0_ok]) (by decide) u5 T.length xs rfl (owns_gr HOx.out (HJL.out.gr.trans HGA.out)) ⟨w3.heap.size, 0, none⟩ 1 1 XL rfl (by rw [HXl.out]) HXc.out HXo.out (by unfold maxLen; omega) (by omega) (by simp; omega) ?_; intro v' w9 hown hgrow _; have HO9 : Hid (w9.ownsRow (w1.heap.size + 1) 86 41 v' (T.length + 1) (xs ++ XL)) := hown; have HG9 : Hid ((w3.alloc (.cells XL.toArray 86)).grownBy w9 u5.ownBlock) := hgrow; have HN9 : Hid (w9.heap[w1.heap.size]? = some (.cells #[.slice (some ⟨mb, mo, none⟩) mn mc', .slice (some ⟨gh, oh, none⟩) j hc'] 34 (0, 0)) ∧ w9.heap[w6.heap.size]? = some (.cells #[.slice t1 mn x1, .slice (some ⟨b2, o2, none⟩) j x2] 34 (0, 0))) := (by
                          have a1 := Hr.heap_of_gr HGA.out (HJL.out.ex.row HNW.out (Nat.ne_of_lt hgl))
                          have a2 := Hr.heap_of_gr HGA.out (HJL.out.ex.row HNX7.out HG12.out)
                          exact ⟨(grown_keep (owns_gr HOx.out (HJL.out.gr.trans HGA.out)) hgrow (by decide) a1).trans a1, (grown_keep (owns_gr HOx.out (HJL.out.gr.trans HGA.out)) hgrow (by decide) a2).trans a2⟩); have z0 := cr0 HN9.out.2; have z1 := cr1 HN9.out.2; have z2 := cr0 HN9.out.1; have z3 := cr1 HN9.out.1; have z4 : w9.frozen? ⟨w1.heap.size, 0, none⟩ = false := fzr HN9.out.1; have z5 : w9.frozen? ⟨w1.heap.size, 1, none⟩ = false := fzr HN9.out.1; clear hown hgrow)
                      | (refine wpList_load_row rfl 34 _ rfl w6.heap.size rfl 34 #[.slice t1 mn x1, .slice (some ⟨b2, o2, none⟩) j x2] (0, 0) _ ?z2 Tryd.underlying34 rfl (by exact iMa) ?_; (case z2 => exact HN9.out.2))
                      | (refine wpList_store_row rfl 34 _ _ rfl w1.heap.size #[.slice t1 mn x1, .slice (some ⟨b2, o2, none⟩) j x2] rfl rfl 34 #[.slice (some ⟨mb, mo, none⟩) mn mc', .slice (some ⟨gh, oh, none⟩) j hc'] ?z3 (by exact iMa) rfl rfl ?_; (case z3 => exact HN9.out.1)))
                    go_roundw
                    case rel =>
                      refine ⟨c + 1, T ++ [k], by omega, by go_num, ?_, ?_, by rw [List.length_append, List.length_singleton]; omega⟩
                      · rw [HTT.out, show N - c = (N - (c + 1)) + 1 by omega, trR_on (by rw [HAT.out]; exact HST.out), dos_snoc, List.append_assoc]
                        rfl
                      · have J9 := HJ2.out.round (wF := (w9.setCell ⟨w1.heap.size, 0, none⟩ (.slice t1 mn x1)).setCell ⟨w1.heap.size, 1, none⟩ (.slice (some ⟨b2, o2, none⟩) j x2)) (x2 := x2) (h := h) (f := f) (bs := bs) HOx.out HUx.out HGl.out hk (by rw [HAT.out]; exact HST.out) HFT.out.len rfl HOH.out HEU.out HOB.out HJL.out HMW.out HHW.out HnD.out HF1.out HF2.out hgl _ HGA.out (by rw [HXL.out]; exact HO9.out) HG9.out (by rw [hss (hss HN9.out.1)]; rfl) (fun b hb => by rw [hso (by exact hb), hso (by exact hb)]) (by simp) (fun G => (G.setCell (by exact HGl.out) _).setCell (by exact HGl.out) _) ⟨_, HXU.out⟩
                        exact J9
                    case measure => simp [intOf]; omega
          · have hs2 : ((at' (dos s0 T) k).state == 0) = false := by simpa using hst
            go_wp2_with fail
            go_roundw
            case rel => exact ⟨i + 1, by omega, by go_num, by rw [HNX.out, HTT.out, trR_off hst, List.append_nil]; exact HJ2.out, by rw [HNX.out, HTT.out, trR_off hst, List.append_nil]; omega⟩
            case measure => simp [intOf]; omega
        · have HEn : Hid (T0 ++ trR (dos s0 T0) k N = T) := by
            unfold Hid
            rw [HTT.out, show N - c = 0 by omega]
            exact List.append_nil T
          go_wp2_with fail
          go_roundw
          case rel => exact ⟨i + 1, by omega, by go_num, by rw [HNX.out, HEn.out]; exact HJ2.out, by rw [HNX.out, HEn.out]; omega⟩
          case measure => simp [intOf]; omega
    · obtain ⟨xs, O, U⟩ := HJ.out.row
      obtain ⟨_, _, ua, uc, rfl⟩ := owns_cells O
      have ei : (nums ps).take i = nums ps := List.take_of_length_le (by have := HP.out.len; unfold nums; rw [List.length_map]; omega)
      have HO : Hid (Us wr ua (trP s0 ((nums ps).take i)).length (uns s0 (trP s0 (nums ps)))) := by
        unfold Hid
        rw [ei] at O U ⊢
        have L := HJ.out.live
        rw [ei] at L
        exact U.us O (uns_len _ _) (fun u hu => by
          obtain ⟨f1, f2, f3, f4⟩ := uns_fit m4 _ _ HF0.out L u hu
          unfold fitU at f1
          simp only [Bool.and_eq_true, decide_eq_true_eq, List.all_eq_true] at f1
          obtain ⟨⟨a0, a1⟩, a2, a3, a4⟩ := f1
          exact ⟨f2, ⟨by omega, by omega⟩, fun q hq => by have := a4 q hq; omega, f3, by omega⟩)
      have HG : Hid (Gr w wr) := HJ.out.gr
      clear O U ei
      go_wp2_with fail
      go_ret
      exact ⟨ua, _, uc, rfl, HO.out, HG.out⟩
end Go.Proofs.YtphklaefhpoimacDoor.Ud
