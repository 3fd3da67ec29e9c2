/-
  ErW: texts of ours that lie in one file.
-/
import Derived.Test.YtchllaeembmioaaGreatDoorR36
set_option linter.unusedVariables false
set_option linter.unusedSimpArgs false
set_option maxHeartbeats 8000000
set_option maxRecDepth 100000
namespace Go.Proofs.YtchllaeembmioaaGreatDoor.En
open Go.ChangeShapes Go.WideShapes Go.ChangeAt Go.RowKit Mm Hh Hc Mc

def ErAny (w : World) (ma ha pa : Option Addr) (mn mc hn hc pn pc : Nat) (room E : Int) (hk mk : Nat) (S : Sh) : Prop :=
  ∀ W : World, Gr w W → Calls Tryz.prog 8 #[.agg #[.slice ma mn mc, .slice ha hn hc], .slice pa pn pc, .int .i64 room] W fun e w' => ∃ v r a m c pu sl, e = .returned (.tuple #[v, .agg #[.int .i64 r, .slice a m c, .int .i64 pu, .int .i64 sl], .int .i64 E]) ∧ Shw w' v hk mk S ∧ Gr W w'
theorem ErNo.any {w : World} {ma ha pa : Option Addr} {mn mc hn hc pn pc : Nat} {room E : Int} (h : ErNo w ma ha pa mn mc hn hc pn pc room E) : ErAny w ma ha pa mn mc hn hc pn pc room E 0 0 ⟨[], [], [], 0⟩ := fun W G => (h W G).mono fun e w' ⟨v, a, c, e1, s, g⟩ => ⟨v, 0, a, 0, c, 0, 0, e1, s, g⟩
theorem ErYes.any {w : World} {ma ha pa : Option Addr} {mn mc hn hc pn pc : Nat} {room : Int} {S : Sh} {F : List Kc.Bv → Int → Int → Prop} (h : ErYes w ma ha pa mn mc hn hc pn pc room S F) : ErAny w ma ha pa mn mc hn hc pn pc room 0 hn mn S := fun W G => (h W G).mono fun e w' ⟨v, a, m, c, pu, sl, L, e1, s, _, g⟩ => ⟨v, room, a, m, c, pu, sl, e1, s, g⟩
def MrAny (w : World) (ma ha pa : Option Addr) (mn mc hn hc pn pc : Nat) (E : Int) (hk mk : Nat) (S : Sh) : Prop :=
  ∀ W : World, Gr w W → Calls Tryz.prog 15 #[.agg #[.slice ma mn mc, .slice ha hn hc], .slice pa pn pc] W fun e w' => ∃ v, e = .returned (.tuple #[v, .int .i64 E]) ∧ Shw w' v hk mk S ∧ Gr W w'
theorem er_no {ma ha pa : Option Addr} {hn pn : Nat} (mc hc pc : Nat) {ps : List (Int × Int)} {w : World} (mn : Nat) (ra rb : Int) (P : Ps w pa pn ps) (b3 : pn ≤ 140737488351232) {E : Int} (hE0 : ¬ E = 0) (R1 : ErAny w ma ha pa mn mc hn hc pn pc ra E 0 0 ⟨[], [], [], 0⟩) (R2 : ErAny w ma ha pa mn mc hn hc pn pc rb E 0 0 ⟨[], [], [], 0⟩) (R3 : MrAny w ma ha pa mn mc hn hc pn pc E 0 0 ⟨[], [], [], 0⟩) :
    Calls Tryz.prog 5 #[.agg #[.slice ma mn mc, .slice ha hn hc], .slice pa pn pc, .int .i64 ra, .int .i64 rb] w fun e w' => e = .returned (.bool true) ∧ Gr w w' := by
  have HR1 : Hid (ErAny w ma ha pa mn mc hn hc pn pc ra E 0 0 ⟨[], [], [], 0⟩) := R1
  have HR2 : Hid (ErAny w ma ha pa mn mc hn hc pn pc rb E 0 0 ⟨[], [], [], 0⟩) := R2
  have HR3 : Hid (MrAny w ma ha pa mn mc hn hc pn pc E 0 0 ⟨[], [], [], 0⟩) := R3
  have HP : Hid (Ps w pa pn ps) := P
  clear R1 R2 R3 P
  have hE : (E != 0) = true := by simpa using hE0
  have hE3 : (E == E) = true := by simp
  clear hE0
  go_enter Tryz.func5, Tryz.ntmps5
  go_wp2_with fail
  go_loopw [9, 10] (fun n i wr => ∃ (k : Nat) (z : Int), k ≤ pn ∧ i = .int .i64 k ∧ n = .int .i64 z ∧ 0 ≤ z ∧ z ≤ 6001 ∧ wr.heap[w.heap.size]? = some (.cells #[.slice ma mn mc, .slice ha hn hc] 25 (0, 0)) ∧ Gr w wr) (fun _ i _ => pn - (intOf i).toNat)
  case atStart => exact ⟨0, 0, Nat.zero_le _, rfl, rfl, by omega, by omega, heap_alloc_new w _, (Gr.refl _).alloc _⟩
  case round =>
    obtain ⟨k, z, hk, rfl, rfl, z0, z1, B, G⟩ := hrel
    have HG : Hid (Gr w wr) := G
    have HB : Hid (wr.heap[w.heap.size]? = some (.cells #[.slice ma mn mc, .slice ha hn hc] 25 (0, 0))) := B
    clear G B
    by_cases hz : z ≤ 3000
    · by_cases hlt : k < pn
      · obtain ⟨p, hp2⟩ : ∃ p, ps[k]? = some p := ⟨_, List.getElem?_eq_getElem (by rw [HP.out.len]; exact hlt)⟩
        obtain ⟨b, o, rfl, hb, hc⟩ := (HP.out.of HG.out).spot (by omega)
        have c1 := (hc k p hp2).2
        clear hp2 hc
        obtain ⟨p1, y⟩ := p
        simp only at *
        generalize hmx : max (min y 3001) 0 = mx at *
        have hm0 : 0 ≤ mx ∧ mx ≤ 3001 := by rw [← hmx, Int.max_def, Int.min_def]; (repeat' split) <;> omega
        by_cases hy : y ≤ 3001
        · by_cases hy0 : 0 ≤ y
          · go_wp2_with fail
            all_goals
              go_roundw
              case rel => exact ⟨k + 1, _, by omega, by go_num, rfl, by omega, by omega, HB.out, HG.out⟩
              case measure => simp [intOf]; omega
          · go_wp2_with fail
            all_goals
              go_roundw
              case rel => exact ⟨k + 1, _, by omega, by go_num, rfl, by omega, by omega, HB.out, HG.out⟩
              case measure => simp [intOf]; omega
        · go_wp2_with fail
          all_goals
            go_roundw
            case rel => exact ⟨k + 1, _, by omega, by go_num, rfl, by omega, by omega, HB.out, HG.out⟩
            case measure => simp [intOf]; omega
      · have x0 : wr.cell? ⟨w.heap.size, 0, none⟩ = some (.slice ma mn mc) := cell_of_row _ _ _ _ _ _ HB.out
        have x1 : wr.cell? ⟨w.heap.size, 1, none⟩ = some (.slice ha hn hc) := cell_of_row _ _ _ _ _ _ HB.out
        go_wp2_with fail
        refine (HR1.out _ HG.out).mono ?_
        rintro e w1 ⟨v, r, a, m, c, pu, sl, rfl, S1, G1⟩
        have HS1 : Hid (Shw w1 v 0 0 ⟨[], [], [], 0⟩) := S1
        obtain ⟨s1, s2, s3, s4, s5, s6, rfl, _⟩ := S1
        have HG1 : Hid (Gr w w1) := HG.out.trans G1
        have HB1 : Hid (w1.heap[w.heap.size]? = some (.cells #[.slice ma mn mc, .slice ha hn hc] 25 (0, 0))) := Hr.heap_of_gr G1 HB.out
        have hl1 : w.heap.size < w1.heap.size := (Array.getElem?_eq_some_iff.1 HB1.out).1
        clear x0 x1 G1 HG HR1 HB
        have HB := HB1
        have x0 : w1.cell? ⟨w.heap.size, 0, none⟩ = some (.slice ma mn mc) := cell_of_row _ _ _ _ _ _ HB.out
        have x1 : w1.cell? ⟨w.heap.size, 1, none⟩ = some (.slice ha hn hc) := cell_of_row _ _ _ _ _ _ HB.out
        clear HB
        go_wp2_with fail
        refine (HR2.out _ ((HG1.out.alloc _).alloc _)).mono ?_
        rintro e w2 ⟨v, r', a', m', c', pu', sl', rfl, S2, G2⟩
        have HS2 : Hid (Shw w2 v 0 0 ⟨[], [], [], 0⟩) := S2
        obtain ⟨t1, t2, t3, t4, t5, t6, rfl, _⟩ := S2
        have HG2 : Hid (Gr w1 w2) := (((Gr.refl w1).alloc _).alloc _).trans G2
        have HB2 : Hid (w2.heap[w.heap.size]? = some (.cells #[.slice ma mn mc, .slice ha hn hc] 25 (0, 0))) := Hr.heap_of_gr HG2.out HB1.out
        have HC1 : Hid (w2.heap[w1.heap.size]? = some (.cells #[.slice s1 0 s2, .slice s3 0 s4, .slice s5 0 s6, .int .i64 0] 32 (0, 0))) := Hr.heap_of_gr (((Gr.refl _).alloc _).trans G2) (heap_alloc_new w1 _)
        have hl2 : w1.heap.size < w2.heap.size := (Array.getElem?_eq_some_iff.1 HC1.out).1
        have hl02 : w.heap.size < w2.heap.size := by omega
        clear x0 x1 G2 HR2
        have HB := HB2
        have x0 : w2.cell? ⟨w.heap.size, 0, none⟩ = some (.slice ma mn mc) := cell_of_row _ _ _ _ _ _ HB.out
        have x1 : w2.cell? ⟨w.heap.size, 1, none⟩ = some (.slice ha hn hc) := cell_of_row _ _ _ _ _ _ HB.out
        clear HB
        go_wp2_with fail
        refine (HR3.out _ (((HG1.out.trans HG2.out).alloc _).alloc _)).mono ?_
        rintro e w3 ⟨v, rfl, S3, G3⟩
        have HS3 : Hid (Shw w3 v 0 0 ⟨[], [], [], 0⟩) := S3
        obtain ⟨u1, u2, u3, u4, u5, u6, rfl, _⟩ := S3
        have HG3 : Hid (Gr w2 w3) := (((Gr.refl w2).alloc _).alloc _).trans G3
        have HC2 : Hid (w3.heap[w2.heap.size]? = some (.cells #[.slice t1 0 t2, .slice t3 0 t4, .slice t5 0 t6, .int .i64 0] 32 (0, 0))) := Hr.heap_of_gr (((Gr.refl _).alloc _).trans G3) (heap_alloc_new w2 _)
        have hl3 : w2.heap.size < w3.heap.size := (Array.getElem?_eq_some_iff.1 HC2.out).1
        have hl13 : w1.heap.size < w3.heap.size := by omega
        clear x0 x1 G3 HR3
        go_wp2_with fail
        go_ret
        exact ⟨rfl, ((HG1.out.trans HG2.out).trans HG3.out).alloc _⟩
    · by_cases hlt : k < pn
      · go_wp2_with fail
        go_ret
        exact ⟨rfl, HG.out⟩
      · go_wp2_with fail
        go_ret
        exact ⟨rfl, HG.out⟩
theorem er_bb {ma ha pa : Option Addr} {hn pn : Nat} (mc hc pc : Nat) {ps : List (Int × Int)} {w : World} (mn : Nat) (ra rb : Int) (P : Ps w pa pn ps) (b3 : pn ≤ 140737488351232) {S : Sh} (R1 : ErAny w ma ha pa mn mc hn hc pn pc ra 3 0 0 ⟨[], [], [], 0⟩) (R2 : ErAny w ma ha pa mn mc hn hc pn pc rb 3 0 0 ⟨[], [], [], 0⟩) (R3 : MrAny w ma ha pa mn mc hn hc pn pc 0 hn mn S) :
    Calls Tryz.prog 5 #[.agg #[.slice ma mn mc, .slice ha hn hc], .slice pa pn pc, .int .i64 ra, .int .i64 rb] w fun e w' => e = .returned (.bool true) ∧ Gr w w' := by
  have HR1 : Hid (ErAny w ma ha pa mn mc hn hc pn pc ra 3 0 0 ⟨[], [], [], 0⟩) := R1
  have HR2 : Hid (ErAny w ma ha pa mn mc hn hc pn pc rb 3 0 0 ⟨[], [], [], 0⟩) := R2
  have HR3 : Hid (MrAny w ma ha pa mn mc hn hc pn pc 0 hn mn S) := R3
  have HP : Hid (Ps w pa pn ps) := P
  clear R1 R2 R3 P
  go_enter Tryz.func5, Tryz.ntmps5
  go_wp2_with fail
  go_loopw [9, 10] (fun n i wr => ∃ (k : Nat) (z : Int), k ≤ pn ∧ i = .int .i64 k ∧ n = .int .i64 z ∧ 0 ≤ z ∧ z ≤ 6001 ∧ wr.heap[w.heap.size]? = some (.cells #[.slice ma mn mc, .slice ha hn hc] 25 (0, 0)) ∧ Gr w wr) (fun _ i _ => pn - (intOf i).toNat)
  case atStart => exact ⟨0, 0, Nat.zero_le _, rfl, rfl, by omega, by omega, heap_alloc_new w _, (Gr.refl _).alloc _⟩
  case round =>
    obtain ⟨k, z, hk, rfl, rfl, z0, z1, B, G⟩ := hrel
    have HG : Hid (Gr w wr) := G
    have HB : Hid (wr.heap[w.heap.size]? = some (.cells #[.slice ma mn mc, .slice ha hn hc] 25 (0, 0))) := B
    clear G B
    by_cases hz : z ≤ 3000
    · by_cases hlt : k < pn
      · obtain ⟨p, hp2⟩ : ∃ p, ps[k]? = some p := ⟨_, List.getElem?_eq_getElem (by rw [HP.out.len]; exact hlt)⟩
        obtain ⟨b, o, rfl, hb, hc⟩ := (HP.out.of HG.out).spot (by omega)
        have c1 := (hc k p hp2).2
        clear hp2 hc
        obtain ⟨p1, y⟩ := p
        simp only at *
        generalize hmx : max (min y 3001) 0 = mx at *
        have hm0 : 0 ≤ mx ∧ mx ≤ 3001 := by rw [← hmx, Int.max_def, Int.min_def]; (repeat' split) <;> omega
        by_cases hy : y ≤ 3001
        · by_cases hy0 : 0 ≤ y
          · go_wp2_with fail
            all_goals
              go_roundw
              case rel => exact ⟨k + 1, _, by omega, by go_num, rfl, by omega, by omega, HB.out, HG.out⟩
              case measure => simp [intOf]; omega
          · go_wp2_with fail
            all_goals
              go_roundw
              case rel => exact ⟨k + 1, _, by omega, by go_num, rfl, by omega, by omega, HB.out, HG.out⟩
              case measure => simp [intOf]; omega
        · go_wp2_with fail
          all_goals
            go_roundw
            case rel => exact ⟨k + 1, _, by omega, by go_num, rfl, by omega, by omega, HB.out, HG.out⟩
            case measure => simp [intOf]; omega
      · have x0 : wr.cell? ⟨w.heap.size, 0, none⟩ = some (.slice ma mn mc) := cell_of_row _ _ _ _ _ _ HB.out
        have x1 : wr.cell? ⟨w.heap.size, 1, none⟩ = some (.slice ha hn hc) := cell_of_row _ _ _ _ _ _ HB.out
        go_wp2_with fail
        refine (HR1.out _ HG.out).mono ?_
        rintro e w1 ⟨v, r, a, m, c, pu, sl, rfl, S1, G1⟩
        have HS1 : Hid (Shw w1 v 0 0 ⟨[], [], [], 0⟩) := S1
        obtain ⟨s1, s2, s3, s4, s5, s6, rfl, _⟩ := S1
        have HG1 : Hid (Gr w w1) := HG.out.trans G1
        have HB1 : Hid (w1.heap[w.heap.size]? = some (.cells #[.slice ma mn mc, .slice ha hn hc] 25 (0, 0))) := Hr.heap_of_gr G1 HB.out
        have hl1 : w.heap.size < w1.heap.size := (Array.getElem?_eq_some_iff.1 HB1.out).1
        clear x0 x1 G1 HG HR1 HB
        have HB := HB1
        have x0 : w1.cell? ⟨w.heap.size, 0, none⟩ = some (.slice ma mn mc) := cell_of_row _ _ _ _ _ _ HB.out
        have x1 : w1.cell? ⟨w.heap.size, 1, none⟩ = some (.slice ha hn hc) := cell_of_row _ _ _ _ _ _ HB.out
        clear HB
        go_wp2_with fail
        refine (HR2.out _ ((HG1.out.alloc _).alloc _)).mono ?_
        rintro e w2 ⟨v, r', a', m', c', pu', sl', rfl, S2, G2⟩
        have HS2 : Hid (Shw w2 v 0 0 ⟨[], [], [], 0⟩) := S2
        obtain ⟨t1, t2, t3, t4, t5, t6, rfl, _⟩ := S2
        have HG2 : Hid (Gr w1 w2) := (((Gr.refl w1).alloc _).alloc _).trans G2
        have HB2 : Hid (w2.heap[w.heap.size]? = some (.cells #[.slice ma mn mc, .slice ha hn hc] 25 (0, 0))) := Hr.heap_of_gr HG2.out HB1.out
        have HC1 : Hid (w2.heap[w1.heap.size]? = some (.cells #[.slice s1 0 s2, .slice s3 0 s4, .slice s5 0 s6, .int .i64 0] 32 (0, 0))) := Hr.heap_of_gr (((Gr.refl _).alloc _).trans G2) (heap_alloc_new w1 _)
        have hl2 : w1.heap.size < w2.heap.size := (Array.getElem?_eq_some_iff.1 HC1.out).1
        have hl02 : w.heap.size < w2.heap.size := by omega
        clear x0 x1 G2 HR2
        have HB := HB2
        have x0 : w2.cell? ⟨w.heap.size, 0, none⟩ = some (.slice ma mn mc) := cell_of_row _ _ _ _ _ _ HB.out
        have x1 : w2.cell? ⟨w.heap.size, 1, none⟩ = some (.slice ha hn hc) := cell_of_row _ _ _ _ _ _ HB.out
        clear HB
        go_wp2_with fail
        refine (HR3.out _ (((HG1.out.trans HG2.out).alloc _).alloc _)).mono ?_
        rintro e w3 ⟨v, rfl, S3, G3⟩
        have HS3 : Hid (Shw w3 v hn mn S) := S3
        obtain ⟨u1, u2, u3, u4, u5, u6, rfl, _⟩ := S3
        have HG3 : Hid (Gr w2 w3) := (((Gr.refl w2).alloc _).alloc _).trans G3
        have HC2 : Hid (w3.heap[w2.heap.size]? = some (.cells #[.slice t1 0 t2, .slice t3 0 t4, .slice t5 0 t6, .int .i64 0] 32 (0, 0))) := Hr.heap_of_gr (((Gr.refl _).alloc _).trans G3) (heap_alloc_new w2 _)
        have hl3 : w2.heap.size < w3.heap.size := (Array.getElem?_eq_some_iff.1 HC2.out).1
        have hl13 : w1.heap.size < w3.heap.size := by omega
        clear x0 x1 G3 HR3
        go_wp2_with fail
        go_ret
        exact ⟨rfl, ((HG1.out.trans HG2.out).trans HG3.out).alloc _⟩
    · by_cases hlt : k < pn
      · go_wp2_with fail
        go_ret
        exact ⟨rfl, HG.out⟩
      · go_wp2_with fail
        go_ret
        exact ⟨rfl, HG.out⟩
theorem er_bo {ma ha pa : Option Addr} {hn pn : Nat} (mc hc pc : Nat) {ps : List (Int × Int)} {w : World} (mn : Nat) (ra rb : Int) (P : Ps w pa pn ps) (b3 : pn ≤ 140737488351232) {S : Sh} (R1 : ErAny w ma ha pa mn mc hn hc pn pc ra 3 0 0 ⟨[], [], [], 0⟩) (R2 : ErAny w ma ha pa mn mc hn hc pn pc rb 0 hn mn S) (R3 : MrAny w ma ha pa mn mc hn hc pn pc 0 hn mn S) :
    Calls Tryz.prog 5 #[.agg #[.slice ma mn mc, .slice ha hn hc], .slice pa pn pc, .int .i64 ra, .int .i64 rb] w fun e w' => e = .returned (.bool true) ∧ Gr w w' := by
  have HR1 : Hid (ErAny w ma ha pa mn mc hn hc pn pc ra 3 0 0 ⟨[], [], [], 0⟩) := R1
  have HR2 : Hid (ErAny w ma ha pa mn mc hn hc pn pc rb 0 hn mn S) := R2
  have HR3 : Hid (MrAny w ma ha pa mn mc hn hc pn pc 0 hn mn S) := R3
  have HP : Hid (Ps w pa pn ps) := P
  clear R1 R2 R3 P
  go_enter Tryz.func5, Tryz.ntmps5
  go_wp2_with fail
  go_loopw [9, 10] (fun n i wr => ∃ (k : Nat) (z : Int), k ≤ pn ∧ i = .int .i64 k ∧ n = .int .i64 z ∧ 0 ≤ z ∧ z ≤ 6001 ∧ wr.heap[w.heap.size]? = some (.cells #[.slice ma mn mc, .slice ha hn hc] 25 (0, 0)) ∧ Gr w wr) (fun _ i _ => pn - (intOf i).toNat)
  case atStart => exact ⟨0, 0, Nat.zero_le _, rfl, rfl, by omega, by omega, heap_alloc_new w _, (Gr.refl _).alloc _⟩
  case round =>
    obtain ⟨k, z, hk, rfl, rfl, z0, z1, B, G⟩ := hrel
    have HG : Hid (Gr w wr) := G
    have HB : Hid (wr.heap[w.heap.size]? = some (.cells #[.slice ma mn mc, .slice ha hn hc] 25 (0, 0))) := B
    clear G B
    by_cases hz : z ≤ 3000
    · by_cases hlt : k < pn
      · obtain ⟨p, hp2⟩ : ∃ p, ps[k]? = some p := ⟨_, List.getElem?_eq_getElem (by rw [HP.out.len]; exact hlt)⟩
        obtain ⟨b, o, rfl, hb, hc⟩ := (HP.out.of HG.out).spot (by omega)
        have c1 := (hc k p hp2).2
        clear hp2 hc
        obtain ⟨p1, y⟩ := p
        simp only at *
        generalize hmx : max (min y 3001) 0 = mx at *
        have hm0 : 0 ≤ mx ∧ mx ≤ 3001 := by rw [← hmx, Int.max_def, Int.min_def]; (repeat' split) <;> omega
        by_cases hy : y ≤ 3001
        · by_cases hy0 : 0 ≤ y
          · go_wp2_with fail
            all_goals
              go_roundw
              case rel => exact ⟨k + 1, _, by omega, by go_num, rfl, by omega, by omega, HB.out, HG.out⟩
              case measure => simp [intOf]; omega
          · go_wp2_with fail
            all_goals
              go_roundw
              case rel => exact ⟨k + 1, _, by omega, by go_num, rfl, by omega, by omega, HB.out, HG.out⟩
              case measure => simp [intOf]; omega
        · go_wp2_with fail
          all_goals
            go_roundw
            case rel => exact ⟨k + 1, _, by omega, by go_num, rfl, by omega, by omega, HB.out, HG.out⟩
            case measure => simp [intOf]; omega
      · have x0 : wr.cell? ⟨w.heap.size, 0, none⟩ = some (.slice ma mn mc) := cell_of_row _ _ _ _ _ _ HB.out
        have x1 : wr.cell? ⟨w.heap.size, 1, none⟩ = some (.slice ha hn hc) := cell_of_row _ _ _ _ _ _ HB.out
        go_wp2_with fail
        refine (HR1.out _ HG.out).mono ?_
        rintro e w1 ⟨v, r, a, m, c, pu, sl, rfl, S1, G1⟩
        have HS1 : Hid (Shw w1 v 0 0 ⟨[], [], [], 0⟩) := S1
        obtain ⟨s1, s2, s3, s4, s5, s6, rfl, _⟩ := S1
        have HG1 : Hid (Gr w w1) := HG.out.trans G1
        have HB1 : Hid (w1.heap[w.heap.size]? = some (.cells #[.slice ma mn mc, .slice ha hn hc] 25 (0, 0))) := Hr.heap_of_gr G1 HB.out
        have hl1 : w.heap.size < w1.heap.size := (Array.getElem?_eq_some_iff.1 HB1.out).1
        clear x0 x1 G1 HG HR1 HB
        have HB := HB1
        have x0 : w1.cell? ⟨w.heap.size, 0, none⟩ = some (.slice ma mn mc) := cell_of_row _ _ _ _ _ _ HB.out
        have x1 : w1.cell? ⟨w.heap.size, 1, none⟩ = some (.slice ha hn hc) := cell_of_row _ _ _ _ _ _ HB.out
        clear HB
        go_wp2_with fail
        refine (HR2.out _ ((HG1.out.alloc _).alloc _)).mono ?_
        rintro e w2 ⟨v, r', a', m', c', pu', sl', rfl, S2, G2⟩
        have HS2 : Hid (Shw w2 v hn mn S) := S2
        obtain ⟨t1, t2, t3, t4, t5, t6, rfl, _⟩ := S2
        have HG2 : Hid (Gr w1 w2) := (((Gr.refl w1).alloc _).alloc _).trans G2
        have HB2 : Hid (w2.heap[w.heap.size]? = some (.cells #[.slice ma mn mc, .slice ha hn hc] 25 (0, 0))) := Hr.heap_of_gr HG2.out HB1.out
        have HC1 : Hid (w2.heap[w1.heap.size]? = some (.cells #[.slice s1 0 s2, .slice s3 0 s4, .slice s5 0 s6, .int .i64 0] 32 (0, 0))) := Hr.heap_of_gr (((Gr.refl _).alloc _).trans G2) (heap_alloc_new w1 _)
        have hl2 : w1.heap.size < w2.heap.size := (Array.getElem?_eq_some_iff.1 HC1.out).1
        have hl02 : w.heap.size < w2.heap.size := by omega
        clear x0 x1 G2 HR2
        have HB := HB2
        have x0 : w2.cell? ⟨w.heap.size, 0, none⟩ = some (.slice ma mn mc) := cell_of_row _ _ _ _ _ _ HB.out
        have x1 : w2.cell? ⟨w.heap.size, 1, none⟩ = some (.slice ha hn hc) := cell_of_row _ _ _ _ _ _ HB.out
        clear HB
        go_wp2_with fail
        refine (HR3.out _ (((HG1.out.trans HG2.out).alloc _).alloc _)).mono ?_
        rintro e w3 ⟨v, rfl, S3, G3⟩
        have HS3 : Hid (Shw w3 v hn mn S) := S3
        obtain ⟨u1, u2, u3, u4, u5, u6, rfl, _⟩ := S3
        have HG3 : Hid (Gr w2 w3) := (((Gr.refl w2).alloc _).alloc _).trans G3
        have HC2 : Hid (w3.heap[w2.heap.size]? = some (.cells #[.slice t1 mn t2, .slice t3 hn t4, .slice t5 (S).out.length t6, .int .i64 (S).steps] 32 (0, 0))) := Hr.heap_of_gr (((Gr.refl _).alloc _).trans G3) (heap_alloc_new w2 _)
        have hl3 : w2.heap.size < w3.heap.size := (Array.getElem?_eq_some_iff.1 HC2.out).1
        have hl13 : w1.heap.size < w3.heap.size := by omega
        clear x0 x1 G3 HR3
        go_wp2_with fail
        go_ret
        exact ⟨rfl, ((HG1.out.trans HG2.out).trans HG3.out).alloc _⟩
    · by_cases hlt : k < pn
      · go_wp2_with fail
        go_ret
        exact ⟨rfl, HG.out⟩
      · go_wp2_with fail
        go_ret
        exact ⟨rfl, HG.out⟩
theorem er_ob {ma ha pa : Option Addr} {hn pn : Nat} (mc hc pc : Nat) {ps : List (Int × Int)} {w : World} (mn : Nat) (ra rb : Int) (P : Ps w pa pn ps) (b3 : pn ≤ 140737488351232) {S : Sh} (R1 : ErAny w ma ha pa mn mc hn hc pn pc ra 0 hn mn S) (R2 : ErAny w ma ha pa mn mc hn hc pn pc rb 3 0 0 ⟨[], [], [], 0⟩) (R3 : MrAny w ma ha pa mn mc hn hc pn pc 0 hn mn S) :
    Calls Tryz.prog 5 #[.agg #[.slice ma mn mc, .slice ha hn hc], .slice pa pn pc, .int .i64 ra, .int .i64 rb] w fun e w' => e = .returned (.bool true) ∧ Gr w w' := by
  have HR1 : Hid (ErAny w ma ha pa mn mc hn hc pn pc ra 0 hn mn S) := R1
  have HR2 : Hid (ErAny w ma ha pa mn mc hn hc pn pc rb 3 0 0 ⟨[], [], [], 0⟩) := R2
  have HR3 : Hid (MrAny w ma ha pa mn mc hn hc pn pc 0 hn mn S) := R3
  have HP : Hid (Ps w pa pn ps) := P
  clear R1 R2 R3 P
  go_enter Tryz.func5, Tryz.ntmps5
  go_wp2_with fail
  go_loopw [9, 10] (fun n i wr => ∃ (k : Nat) (z : Int), k ≤ pn ∧ i = .int .i64 k ∧ n = .int .i64 z ∧ 0 ≤ z ∧ z ≤ 6001 ∧ wr.heap[w.heap.size]? = some (.cells #[.slice ma mn mc, .slice ha hn hc] 25 (0, 0)) ∧ Gr w wr) (fun _ i _ => pn - (intOf i).toNat)
  case atStart => exact ⟨0, 0, Nat.zero_le _, rfl, rfl, by omega, by omega, heap_alloc_new w _, (Gr.refl _).alloc _⟩
  case round =>
    obtain ⟨k, z, hk, rfl, rfl, z0, z1, B, G⟩ := hrel
    have HG : Hid (Gr w wr) := G
    have HB : Hid (wr.heap[w.heap.size]? = some (.cells #[.slice ma mn mc, .slice ha hn hc] 25 (0, 0))) := B
    clear G B
    by_cases hz : z ≤ 3000
    · by_cases hlt : k < pn
      · obtain ⟨p, hp2⟩ : ∃ p, ps[k]? = some p := ⟨_, List.getElem?_eq_getElem (by rw [HP.out.len]; exact hlt)⟩
        obtain ⟨b, o, rfl, hb, hc⟩ := (HP.out.of HG.out).spot (by omega)
        have c1 := (hc k p hp2).2
        clear hp2 hc
        obtain ⟨p1, y⟩ := p
        simp only at *
        generalize hmx : max (min y 3001) 0 = mx at *
        have hm0 : 0 ≤ mx ∧ mx ≤ 3001 := by rw [← hmx, Int.max_def, Int.min_def]; (repeat' split) <;> omega
        by_cases hy : y ≤ 3001
        · by_cases hy0 : 0 ≤ y
          · go_wp2_with fail
            all_goals
              go_roundw
              case rel => exact ⟨k + 1, _, by omega, by go_num, rfl, by omega, by omega, HB.out, HG.out⟩
              case measure => simp [intOf]; omega
          · go_wp2_with fail
            all_goals
              go_roundw
              case rel => exact ⟨k + 1, _, by omega, by go_num, rfl, by omega, by omega, HB.out, HG.out⟩
              case measure => simp [intOf]; omega
        · go_wp2_with fail
          all_goals
            go_roundw
            case rel => exact ⟨k + 1, _, by omega, by go_num, rfl, by omega, by omega, HB.out, HG.out⟩
            case measure => simp [intOf]; omega
      · have x0 : wr.cell? ⟨w.heap.size, 0, none⟩ = some (.slice ma mn mc) := cell_of_row _ _ _ _ _ _ HB.out
        have x1 : wr.cell? ⟨w.heap.size, 1, none⟩ = some (.slice ha hn hc) := cell_of_row _ _ _ _ _ _ HB.out
        go_wp2_with fail
        refine (HR1.out _ HG.out).mono ?_
        rintro e w1 ⟨v, r, a, m, c, pu, sl, rfl, S1, G1⟩
        have HS1 : Hid (Shw w1 v hn mn S) := S1
        obtain ⟨s1, s2, s3, s4, s5, s6, rfl, _⟩ := S1
        have HG1 : Hid (Gr w w1) := HG.out.trans G1
        have HB1 : Hid (w1.heap[w.heap.size]? = some (.cells #[.slice ma mn mc, .slice ha hn hc] 25 (0, 0))) := Hr.heap_of_gr G1 HB.out
        have hl1 : w.heap.size < w1.heap.size := (Array.getElem?_eq_some_iff.1 HB1.out).1
        clear x0 x1 G1 HG HR1 HB
        have HB := HB1
        have x0 : w1.cell? ⟨w.heap.size, 0, none⟩ = some (.slice ma mn mc) := cell_of_row _ _ _ _ _ _ HB.out
        have x1 : w1.cell? ⟨w.heap.size, 1, none⟩ = some (.slice ha hn hc) := cell_of_row _ _ _ _ _ _ HB.out
        clear HB
        go_wp2_with fail
        refine (HR2.out _ ((HG1.out.alloc _).alloc _)).mono ?_
        rintro e w2 ⟨v, r', a', m', c', pu', sl', rfl, S2, G2⟩
        have HS2 : Hid (Shw w2 v 0 0 ⟨[], [], [], 0⟩) := S2
        obtain ⟨t1, t2, t3, t4, t5, t6, rfl, _⟩ := S2
        have HG2 : Hid (Gr w1 w2) := (((Gr.refl w1).alloc _).alloc _).trans G2
        have HB2 : Hid (w2.heap[w.heap.size]? = some (.cells #[.slice ma mn mc, .slice ha hn hc] 25 (0, 0))) := Hr.heap_of_gr HG2.out HB1.out
        have HC1 : Hid (w2.heap[w1.heap.size]? = some (.cells #[.slice s1 mn s2, .slice s3 hn s4, .slice s5 (S).out.length s6, .int .i64 (S).steps] 32 (0, 0))) := Hr.heap_of_gr (((Gr.refl _).alloc _).trans G2) (heap_alloc_new w1 _)
        have hl2 : w1.heap.size < w2.heap.size := (Array.getElem?_eq_some_iff.1 HC1.out).1
        have hl02 : w.heap.size < w2.heap.size := by omega
        clear x0 x1 G2 HR2
        have HB := HB2
        have x0 : w2.cell? ⟨w.heap.size, 0, none⟩ = some (.slice ma mn mc) := cell_of_row _ _ _ _ _ _ HB.out
        have x1 : w2.cell? ⟨w.heap.size, 1, none⟩ = some (.slice ha hn hc) := cell_of_row _ _ _ _ _ _ HB.out
        clear HB
        go_wp2_with fail
        refine (HR3.out _ (((HG1.out.trans HG2.out).alloc _).alloc _)).mono ?_
        rintro e w3 ⟨v, rfl, S3, G3⟩
        have HS3 : Hid (Shw w3 v hn mn S) := S3
        obtain ⟨u1, u2, u3, u4, u5, u6, rfl, _⟩ := S3
        have HG3 : Hid (Gr w2 w3) := (((Gr.refl w2).alloc _).alloc _).trans G3
        have HC2 : Hid (w3.heap[w2.heap.size]? = some (.cells #[.slice t1 0 t2, .slice t3 0 t4, .slice t5 0 t6, .int .i64 0] 32 (0, 0))) := Hr.heap_of_gr (((Gr.refl _).alloc _).trans G3) (heap_alloc_new w2 _)
        have hl3 : w2.heap.size < w3.heap.size := (Array.getElem?_eq_some_iff.1 HC2.out).1
        have hl13 : w1.heap.size < w3.heap.size := by omega
        clear x0 x1 G3 HR3
        go_wp2_with fail
        go_ret
        exact ⟨rfl, ((HG1.out.trans HG2.out).trans HG3.out).alloc _⟩
    · by_cases hlt : k < pn
      · go_wp2_with fail
        go_ret
        exact ⟨rfl, HG.out⟩
      · go_wp2_with fail
        go_ret
        exact ⟨rfl, HG.out⟩
theorem er_yes {ma ha pa : Option Addr} {hn pn : Nat} (mc hc pc : Nat) {ps : List (Int × Int)} {w : World} (mn : Nat) (ra rb : Int) (P : Ps w pa pn ps) (b3 : pn ≤ 140737488351232) {S : Sh} (HFO : Hid (S.out.length ≤ 1000000)) (c4 : hn ≤ 4) (hpos : 0 < hn) (R1 : ErAny w ma ha pa mn mc hn hc pn pc ra 0 hn mn S) (R2 : ErAny w ma ha pa mn mc hn hc pn pc rb 0 hn mn S) (R3 : MrAny w ma ha pa mn mc hn hc pn pc 0 hn mn S) :
    Calls Tryz.prog 5 #[.agg #[.slice ma mn mc, .slice ha hn hc], .slice pa pn pc, .int .i64 ra, .int .i64 rb] w fun e w' => e = .returned (.bool true) ∧ Gr w w' := by
  have HR1 : Hid (ErAny w ma ha pa mn mc hn hc pn pc ra 0 hn mn S) := R1
  have HR2 : Hid (ErAny w ma ha pa mn mc hn hc pn pc rb 0 hn mn S) := R2
  have HR3 : Hid (MrAny w ma ha pa mn mc hn hc pn pc 0 hn mn S) := R3
  have HP : Hid (Ps w pa pn ps) := P
  clear R1 R2 R3 P
  go_enter Tryz.func5, Tryz.ntmps5
  go_wp2_with fail
  go_loopw [9, 10] (fun n i wr => ∃ (k : Nat) (z : Int), k ≤ pn ∧ i = .int .i64 k ∧ n = .int .i64 z ∧ 0 ≤ z ∧ z ≤ 6001 ∧ wr.heap[w.heap.size]? = some (.cells #[.slice ma mn mc, .slice ha hn hc] 25 (0, 0)) ∧ Gr w wr) (fun _ i _ => pn - (intOf i).toNat)
  case atStart => exact ⟨0, 0, Nat.zero_le _, rfl, rfl, by omega, by omega, heap_alloc_new w _, (Gr.refl _).alloc _⟩
  case round =>
    obtain ⟨k, z, hk, rfl, rfl, z0, z1, B, G⟩ := hrel
    have HG : Hid (Gr w wr) := G
    have HB : Hid (wr.heap[w.heap.size]? = some (.cells #[.slice ma mn mc, .slice ha hn hc] 25 (0, 0))) := B
    clear G B
    by_cases hz : z ≤ 3000
    · by_cases hlt : k < pn
      · obtain ⟨p, hp2⟩ : ∃ p, ps[k]? = some p := ⟨_, List.getElem?_eq_getElem (by rw [HP.out.len]; exact hlt)⟩
        obtain ⟨b, o, rfl, hb, hc⟩ := (HP.out.of HG.out).spot (by omega)
        have c1 := (hc k p hp2).2
        clear hp2 hc
        obtain ⟨p1, y⟩ := p
        simp only at *
        generalize hmx : max (min y 3001) 0 = mx at *
        have hm0 : 0 ≤ mx ∧ mx ≤ 3001 := by rw [← hmx, Int.max_def, Int.min_def]; (repeat' split) <;> omega
        by_cases hy : y ≤ 3001
        · by_cases hy0 : 0 ≤ y
          · go_wp2_with fail
            all_goals
              go_roundw
              case rel => exact ⟨k + 1, _, by omega, by go_num, rfl, by omega, by omega, HB.out, HG.out⟩
              case measure => simp [intOf]; omega
          · go_wp2_with fail
            all_goals
              go_roundw
              case rel => exact ⟨k + 1, _, by omega, by go_num, rfl, by omega, by omega, HB.out, HG.out⟩
              case measure => simp [intOf]; omega
        · go_wp2_with fail
          all_goals
            go_roundw
            case rel => exact ⟨k + 1, _, by omega, by go_num, rfl, by omega, by omega, HB.out, HG.out⟩
            case measure => simp [intOf]; omega
      · have x0 : wr.cell? ⟨w.heap.size, 0, none⟩ = some (.slice ma mn mc) := cell_of_row _ _ _ _ _ _ HB.out
        have x1 : wr.cell? ⟨w.heap.size, 1, none⟩ = some (.slice ha hn hc) := cell_of_row _ _ _ _ _ _ HB.out
        go_wp2_with fail
        refine (HR1.out _ HG.out).mono ?_
        rintro e w1 ⟨v, r, a, m, c, pu, sl, rfl, S1, G1⟩
        have HS1 : Hid (Shw w1 v hn mn S) := S1
        obtain ⟨s1, s2, s3, s4, s5, s6, rfl, _⟩ := S1
        have HG1 : Hid (Gr w w1) := HG.out.trans G1
        have HB1 : Hid (w1.heap[w.heap.size]? = some (.cells #[.slice ma mn mc, .slice ha hn hc] 25 (0, 0))) := Hr.heap_of_gr G1 HB.out
        have hl1 : w.heap.size < w1.heap.size := (Array.getElem?_eq_some_iff.1 HB1.out).1
        clear x0 x1 G1 HG HR1 HB
        have HB := HB1
        have x0 : w1.cell? ⟨w.heap.size, 0, none⟩ = some (.slice ma mn mc) := cell_of_row _ _ _ _ _ _ HB.out
        have x1 : w1.cell? ⟨w.heap.size, 1, none⟩ = some (.slice ha hn hc) := cell_of_row _ _ _ _ _ _ HB.out
        clear HB
        go_wp2_with fail
        refine (HR2.out _ ((HG1.out.alloc _).alloc _)).mono ?_
        rintro e w2 ⟨v, r', a', m', c', pu', sl', rfl, S2, G2⟩
        have HS2 : Hid (Shw w2 v hn mn S) := S2
        obtain ⟨t1, t2, t3, t4, t5, t6, rfl, _⟩ := S2
        have HG2 : Hid (Gr w1 w2) := (((Gr.refl w1).alloc _).alloc _).trans G2
        have HB2 : Hid (w2.heap[w.heap.size]? = some (.cells #[.slice ma mn mc, .slice ha hn hc] 25 (0, 0))) := Hr.heap_of_gr HG2.out HB1.out
        have HC1 : Hid (w2.heap[w1.heap.size]? = some (.cells #[.slice s1 mn s2, .slice s3 hn s4, .slice s5 (S).out.length s6, .int .i64 (S).steps] 32 (0, 0))) := Hr.heap_of_gr (((Gr.refl _).alloc _).trans G2) (heap_alloc_new w1 _)
        have hl2 : w1.heap.size < w2.heap.size := (Array.getElem?_eq_some_iff.1 HC1.out).1
        have hl02 : w.heap.size < w2.heap.size := by omega
        clear x0 x1 G2 HR2
        have HB := HB2
        have x0 : w2.cell? ⟨w.heap.size, 0, none⟩ = some (.slice ma mn mc) := cell_of_row _ _ _ _ _ _ HB.out
        have x1 : w2.cell? ⟨w.heap.size, 1, none⟩ = some (.slice ha hn hc) := cell_of_row _ _ _ _ _ _ HB.out
        clear HB
        go_wp2_with fail
        refine (HR3.out _ (((HG1.out.trans HG2.out).alloc _).alloc _)).mono ?_
        rintro e w3 ⟨v, rfl, S3, G3⟩
        have HS3 : Hid (Shw w3 v hn mn S) := S3
        obtain ⟨u1, u2, u3, u4, u5, u6, rfl, _⟩ := S3
        have HG3 : Hid (Gr w2 w3) := (((Gr.refl w2).alloc _).alloc _).trans G3
        have HC2 : Hid (w3.heap[w2.heap.size]? = some (.cells #[.slice t1 mn t2, .slice t3 hn t4, .slice t5 (S).out.length t6, .int .i64 (S).steps] 32 (0, 0))) := Hr.heap_of_gr (((Gr.refl _).alloc _).trans G3) (heap_alloc_new w2 _)
        have hl3 : w2.heap.size < w3.heap.size := (Array.getElem?_eq_some_iff.1 HC2.out).1
        have hl13 : w1.heap.size < w3.heap.size := by omega
        clear x0 x1 G3 HR3
        have y0 : w3.cell? ⟨w1.heap.size, 0, none⟩ = some (.slice s1 mn s2) := cell_of_row _ _ _ _ _ _ (Hr.heap_of_gr HG3.out HC1.out)
        have y1 : w3.cell? ⟨w1.heap.size, 1, none⟩ = some (.slice s3 hn s4) := cell_of_row _ _ _ _ _ _ (Hr.heap_of_gr HG3.out HC1.out)
        have y2 : w3.cell? ⟨w1.heap.size, 2, none⟩ = some (.slice s5 S.out.length s6) := cell_of_row _ _ _ _ _ _ (Hr.heap_of_gr HG3.out HC1.out)
        have y3 : w3.cell? ⟨w1.heap.size, 3, none⟩ = some (.int .i64 S.steps) := cell_of_row _ _ _ _ _ _ (Hr.heap_of_gr HG3.out HC1.out)
        have z0 : w3.cell? ⟨w2.heap.size, 0, none⟩ = some (.slice t1 mn t2) := cell_of_row _ _ _ _ _ _ HC2.out
        have z1 : w3.cell? ⟨w2.heap.size, 1, none⟩ = some (.slice t3 hn t4) := cell_of_row _ _ _ _ _ _ HC2.out
        have z2 : w3.cell? ⟨w2.heap.size, 2, none⟩ = some (.slice t5 S.out.length t6) := cell_of_row _ _ _ _ _ _ HC2.out
        have z3 : w3.cell? ⟨w2.heap.size, 3, none⟩ = some (.int .i64 S.steps) := cell_of_row _ _ _ _ _ _ HC2.out
        go_wp2_with fail
        refine (Same_w (((HS1.out.of HG2.out).of HG3.out).of ((Gr.refl _).alloc _)) ((HS2.out.of HG3.out).of ((Gr.refl _).alloc _)) HFO.out c4).mono ?_
        rintro e w4 ⟨rfl, G4⟩
        have HG4 : Hid (Gr w3 w4) := ((Gr.refl _).alloc _).trans G4
        have HC3 : Hid (w4.heap[w3.heap.size]? = some (.cells #[.slice u1 mn u2, .slice u3 hn u4, .slice u5 S.out.length u6, .int .i64 S.steps] 32 (0, 0))) := Hr.heap_of_gr G4 (heap_alloc_new w3 _)
        clear G4 y0 y1 y2 y3 z0 z1 z2 z3
        have y0 : w4.cell? ⟨w1.heap.size, 0, none⟩ = some (.slice s1 mn s2) := cell_of_row _ _ _ _ _ _ (Hr.heap_of_gr (HG3.out.trans HG4.out) HC1.out)
        have y1 : w4.cell? ⟨w1.heap.size, 1, none⟩ = some (.slice s3 hn s4) := cell_of_row _ _ _ _ _ _ (Hr.heap_of_gr (HG3.out.trans HG4.out) HC1.out)
        have y2 : w4.cell? ⟨w1.heap.size, 2, none⟩ = some (.slice s5 S.out.length s6) := cell_of_row _ _ _ _ _ _ (Hr.heap_of_gr (HG3.out.trans HG4.out) HC1.out)
        have y3 : w4.cell? ⟨w1.heap.size, 3, none⟩ = some (.int .i64 S.steps) := cell_of_row _ _ _ _ _ _ (Hr.heap_of_gr (HG3.out.trans HG4.out) HC1.out)
        have z0 : w4.cell? ⟨w3.heap.size, 0, none⟩ = some (.slice u1 mn u2) := cell_of_row _ _ _ _ _ _ HC3.out
        have z1 : w4.cell? ⟨w3.heap.size, 1, none⟩ = some (.slice u3 hn u4) := cell_of_row _ _ _ _ _ _ HC3.out
        have z2 : w4.cell? ⟨w3.heap.size, 2, none⟩ = some (.slice u5 S.out.length u6) := cell_of_row _ _ _ _ _ _ HC3.out
        have z3 : w4.cell? ⟨w3.heap.size, 3, none⟩ = some (.int .i64 S.steps) := cell_of_row _ _ _ _ _ _ HC3.out
        go_wp2_with fail
        refine (Same_w (((HS1.out.of HG2.out).of HG3.out).of HG4.out) (HS3.out.of HG4.out) HFO.out c4).mono ?_
        rintro e w5 ⟨rfl, G5⟩
        have HG5 : Hid (Gr w w5) := ((HG1.out.trans HG2.out).trans HG3.out).trans (HG4.out.trans G5)
        clear G5 y0 y1 y2 y3 z0 z1 z2 z3
        go_wp2_with fail
        go_ret
        exact ⟨rfl, HG5.out⟩
    · by_cases hlt : k < pn
      · go_wp2_with fail
        go_ret
        exact ⟨rfl, HG.out⟩
      · go_wp2_with fail
        go_ret
        exact ⟨rfl, HG.out⟩
end Go.Proofs.YtchllaeembmioaaGreatDoor.En
