/-
  Em, Hb, Mz, Sq, Mz2: texts of ours that lie in one file.
-/
import Derived.Test.YtchllaeembmioaaGreatDoorR06
import Derived.Maps.OwnSet
import Derived.Maps.RangeWalk
import Derived.Lib.SlMapFilter
import Derived.Test.YtchllaeembmioaaGreatDoorR03
set_option linter.unusedVariables false
set_option linter.unusedSimpArgs false
set_option maxHeartbeats 8000000
set_option maxRecDepth 100000
namespace Go.Proofs.YtchllaeembmioaaGreatDoor.En
open Go.ChangeShapes Go.WideShapes Go.ChangeAt Go.RowKit Mm Hh Hc

def Rh (v : Value) : Option (DataW Value × List MemPlace) := some (.held v, [])
theorem kU : Maps.Keyed Tryz.prog 42 := Maps.int_keyed Tryz.underlying42
theorem wfU {x : Int} (h0 : 0 ≤ x) (h1 : x < 4294967296) : (Lit.int .u32 x).wf = true := by
  simp only [Lit.wf, Bool.and_eq_true, decide_eq_true_eq]
  exact ⟨by show (0 : Int) ≤ x; exact h0, by show x ≤ 4294967295; omega⟩
theorem unwfU {x : Int} (h : (Lit.int .u32 x).wf = true) : 0 ≤ x ∧ x < 4294967296 := by
  simp only [Lit.wf, Bool.and_eq_true, decide_eq_true_eq] at h
  have h1 : (0 : Int) ≤ x := h.1
  have h2 : x ≤ 4294967295 := h.2
  omega
theorem keyU {x : Int} (h0 : 0 ≤ x) (h1 : x < 4294967296) : keyOf Tryz.prog 42 (.int .u32 x) = some (.int .u32 x) := Maps.keyOf_int_mk Tryz.underlying42 (wfU h0 h1)
theorem gr_grown {w w' : World} (G : Gr w w') : w.grownBy w' none := ⟨G.os, G.tape, G.output, G.size, fun k hk _ => G.block k hk⟩
theorem mdel_any {w : World} {b n : Nat} {D : DataW Value} (pd : Lit → DataW Value → Bool) (C : Nat) (hown : w.ownsMap Tryz.prog 42 Rh b n D)
    (hdel : ∀ (W : World) (x : Int) (v : Value), w.grownBy W (some b) → 0 ≤ x → x < 4294967296 → Calls Tryz.prog 82 #[.int .u32 x, v, .pointer (some ⟨C, 0, none⟩)] W fun e w' => e = .returned (.bool (pd (.int .u32 x) (.held v))) ∧ Gr W w') :
    Calls Tryz.prog 81 #[.map (some b), .func (.func 82) #[] #[.pointer (some ⟨C, 0, none⟩)]] w fun e w' => e = .returned (.tuple #[]) ∧ w'.ownsMap Tryz.prog 42 Rh b n (Lib.deleteFuncD pd D) ∧ w.grownBy w' (some b) := by
  obtain ⟨es0, rfl, hap, hkeys⟩ := hown.entries kU
  have HD : Hid (∀ (W : World) (x : Int) (v : Value), w.grownBy W (some b) → 0 ≤ x → x < 4294967296 → Calls Tryz.prog 82 #[.int .u32 x, v, .pointer (some ⟨C, 0, none⟩)] W fun e w' => e = .returned (.bool (pd (.int .u32 x) (.held v))) ∧ Gr W w') := hdel
  clear hdel
  go_enter Tryz.func81, Tryz.ntmps81
  go_wp2_with (first
    | (at_range; refine wpList_range_own _ rfl _ 64 rfl 42 117 kU Tryz.underlying64 Rh b n _ rfl hown ?_; intro w0 hrg0 hg0 hs0)
    | go_in)
  go_frame
  go_loopw [8] (fun _ wr => ∃ (left : Lit → Bool) (cnt : Nat), wr.ranges Tryz.prog 42 Rh b w.heap.size n (Maps.Fk pd es0 left) left cnt ∧ w.grownBy wr (some b))
    (fun _ wr => wr.rangeLeft b w.heap.size)
  case atStart => exact ⟨_, _, by rw [Maps.Fk_start hkeys]; exact hrg0, hg0.but _⟩
  case round =>
    obtain ⟨left, cnt, hrg, hgw⟩ := hrel
    go_wp2_with (first
      | (at_next; refine wpList_next_ranges _ rfl _ rfl 42 kU Rh (Value.int .u32) id (fun key kl hk => by obtain ⟨x, rfl, _⟩ := Maps.keyOf_int_inv Tryz.underlying42 hk; exact ⟨x, rfl⟩) (fun v _ _ => ⟨v, rfl⟩) b w.heap.size n _ _ _ rfl hrg ?_ ?_)
      | go_in)
    · intro _ hl0
      go_wp2
      go_end0
      exact ⟨rfl, by rw [← Maps.Fk_end hl0]; exact hrg.owns, hgw⟩
    · intro x c kl yd yp w1 cnt1 hkey hlx hv hat hrg1 hlt hg1 hs1 hen
      obtain ⟨x', ex, rfl, hwx⟩ := Maps.keyOf_int_inv Tryz.underlying42 hkey
      injection ex with _ ex
      subst ex
      have hv2 : yd = .held c := by
        have : some (DataW.held c, ([] : List MemPlace)) = some (yd, yp) := hv
        injection this with this
        injection this with this
        exact this.symm
      rw [hv2] at hat
      have hgw1 := hgw.andThen hg1 (fun j hj => by cases hj; exact Or.inl (Nat.le_refl _))
      have hx := unwfU hwx
      have hc := HD.out w1 x c hgw1 hx.1 hx.2
      have HC : Hid (Calls Tryz.prog 82 #[.int .u32 x, c, .pointer (some ⟨C, 0, none⟩)] w1 fun e w' => e = .returned (.bool (pd (.int .u32 x) (.held c))) ∧ Gr w1 w') := hc
      have hbl := hrg1.owns.lt
      have hrl := hrg1.lt
      clear hc hv hv2 HD
      cases hp : pd (.int .u32 x) (.held c) with
      | false =>
        have HC2 : Hid (Calls Tryz.prog 82 #[.int .u32 x, c, .pointer (some ⟨C, 0, none⟩)] w1 fun e w' => e = .returned (.bool false) ∧ Gr w1 w') := by have := HC.out; rwa [hp] at this
        clear HC
        go_wp2_with fail
        refine Calls.mono HC2.out ?_
        rintro e w2 ⟨rfl, G2⟩
        have hg2 := gr_grown G2
        have hrg2 := hrg1.kept hg2 (by simp) (by simp)
        clear HC2 G2 hen
        go_wp2_with fail
        go_roundw
        case rel => exact ⟨_, cnt1, by rw [← Maps.Fk_stays hap (kU.key hkey) hlx hp hat]; exact hrg2, hgw1.andThen hg2 (fun j hj => by cases hj)⟩
        case measure => rw [hrg2.left_eq, hrg.left_eq]; exact hlt
      | true =>
        have HC2 : Hid (Calls Tryz.prog 82 #[.int .u32 x, c, .pointer (some ⟨C, 0, none⟩)] w1 fun e w' => e = .returned (.bool true) ∧ Gr w1 w') := by have := HC.out; rwa [hp] at this
        clear HC
        go_wp2_with fail
        refine Calls.mono HC2.out ?_
        rintro e w2 ⟨rfl, G2⟩
        have hg2 := gr_grown G2
        have hrg2 := hrg1.kept hg2 (by simp) (by simp)
        clear HC2 G2 hen
        go_wp2_with (first
          | (at_delete; refine wpList_delete_ranges _ rfl _ _ 64 42 rfl 117 kU Tryz.underlying64 Rh b w.heap.size n _ _ _ rfl hrg2 _ _ rfl hkey ?_; intro w3 cnt3 hrg3 hle hturn; go_frame)
          | go_in)
        rw [Maps.strike_twice] at hrg3
        go_roundw
        case rel => exact ⟨_, cnt3, by rw [← Maps.Fk_struck hap (kU.key hkey) hlx hp hat]; exact hrg3, (hgw1.andThen hg2 (fun j hj => by cases hj)).andThen hturn.grown (fun j hj => by cases hj; exact Or.inr rfl)⟩
        case measure => rw [hrg3.left_eq, hrg.left_eq]; omega
theorem eat1_any {w : World} {B : Nat} {pc : Int} (kb : w.cell? ⟨B, 0, none⟩ = some (.int .u32 pc)) (x : Int) (sa : Option Addr) (n c : Nat) :
    Calls Tryz.prog 102 #[.agg #[.int .u32 x, .slice sa n c], .pointer (some ⟨B, 0, none⟩)] w fun e w' => e = .returned (.bool (decide (x = pc))) ∧ Gr w w' := by
  have q1 : ∀ o, (w.alloc o).cell? ⟨B, 0, none⟩ = some (.int .u32 pc) := fun o => (((Gr.refl w).alloc o).cell _ (by exact World.block_lt_of_cell? w _ kb)).trans kb
  clear kb
  go_enter Tryz.func102, Tryz.ntmps102
  go_wp2
  go_ret
  refine ⟨Kc.ret_bool ?_, (Gr.refl _).alloc _⟩
  first | rfl | simp
theorem eat_any (w : World) (pc : Int) :
    Calls Tryz.prog 84 #[.int .u32 pc] w fun e w' => ∃ B, e = .returned (.func (.func 102) #[] #[.pointer (some ⟨B, 0, none⟩)]) ∧ w'.cell? ⟨B, 0, none⟩ = some (.int .u32 pc) ∧ Gr w w' := by
  go_enter Tryz.func84, Tryz.ntmps84
  go_wp2
  go_ret
  exact ⟨w.heap.size, rfl, cell_of_row _ _ _ _ _ _ (heap_alloc_new w _), (Gr.refl _).alloc _⟩
theorem eidx_at {w : World} {ao : Option Addr} {n : Nat} (cap : Nat) {bs : List Kc.Bv} (R : Kc.Bq w ao n bs) (hs : n ≤ 140737488351232) (B : Nat) (p : Kc.Bv → Bool) (Cl0 : ∀ (W : World) (b : Kc.Bv) (sa : Option Addr) (sc : Nat), Gr w W → b ∈ bs → Calls Tryz.prog 102 #[.agg #[.int .u32 b.pc, .slice sa b.is.length sc], .pointer (some ⟨B, 0, none⟩)] W fun e w' => e = .returned (.bool (p b)) ∧ Gr W w') :
    Calls Tryz.prog 91 #[.slice ao n cap, .func (.func 102) #[] #[.pointer (some ⟨B, 0, none⟩)]] w fun e w' => e = .returned (.int .i64 (Kc.fidx p bs 0)) ∧ Gr w w' := by
  have Cl : Hid (∀ (W : World) (b : Kc.Bv) (sa : Option Addr) (sc : Nat), Gr w W → b ∈ bs → Calls Tryz.prog 102 #[.agg #[.int .u32 b.pc, .slice sa b.is.length sc], .pointer (some ⟨B, 0, none⟩)] W fun e w' => e = .returned (.bool (p b)) ∧ Gr W w') := Cl0
  have HR : Hid (Kc.Bq w ao n bs) := R
  have HN : Hid (bs.length = n) := R.len
  clear R Cl0
  go_enter Tryz.func91, Tryz.ntmps91
  go_wp2_with fail
  go_loopw [8] (fun i wr => ∃ j : Nat, j ≤ n ∧ i = .int .i64 j ∧ (∀ (i : Nat) (y : Kc.Bv), i < j → bs[i]? = some y → p y = false) ∧ Gr w wr) (fun i _ => n - (intOf i).toNat)
  case atStart => exact ⟨0, Nat.zero_le _, rfl, fun i y h => absurd h (by omega), Gr.refl _⟩
  case round =>
    obtain ⟨j, hj, rfl, hno, G⟩ := hrel
    have HNo : Hid (∀ (i : Nat) (y : Kc.Bv), i < j → bs[i]? = some y → p y = false) := hno
    have HG : Hid (Gr w wr) := G
    clear hno G
    by_cases hlt : j < n
    · obtain ⟨b, hb⟩ : ∃ b, bs[j]? = some b := ⟨_, List.getElem?_eq_getElem (by rw [HN.out]; exact hlt)⟩
      obtain ⟨g1, o1, rfl, l1, hc⟩ := (HR.out.of HG.out).spot (by omega)
      obtain ⟨c0, sa, sc, c1⟩ := hc j b hb
      have HY : Hid (p b = true → Kc.fidx p bs 0 = (j : Int)) := fun h => by have := Kc.fidx_at (k := 0) hb h HNo.out; rwa [Nat.zero_add] at this
      have HZ : Hid (p b = false → ∀ (i : Nat) (y : Kc.Bv), i < j + 1 → bs[i]? = some y → p y = false) := fun h i y hi hy => by
        by_cases e : i < j
        · exact HNo.out i y e hy
        · have e2 : i = j := by omega
          subst e2
          rw [hb] at hy
          injection hy with hy
          rw [← hy]; exact h
      have Cl2 : Hid (∀ W : World, Gr w W → Calls Tryz.prog 102 #[.agg #[.int .u32 b.pc, .slice sa b.is.length sc], .pointer (some ⟨B, 0, none⟩)] W fun e w' => e = .returned (.bool (p b)) ∧ Gr W w') := fun W G => Cl.out W b sa sc G (List.mem_of_getElem? hb)
      generalize p b = m at *
      clear hb Cl HNo HR HN hc
      generalize b.pc = x at *
      generalize b.is.length = q at *
      cases m with
      | true =>
        have HY2 : Hid (Kc.fidx p bs 0 = (j : Int)) := HY.out rfl
        clear HY HZ
        go_wp2_with fail
        refine (Cl2.out _ HG.out).mono ?_
        rintro e w1 ⟨rfl, G1⟩
        have HG1 : Hid (Gr w w1) := HG.out.trans G1
        clear Cl2 G1 c0 c1
        go_wp2_with fail
        go_ret
        exact ⟨by rw [HY2.out]; rfl, HG1.out⟩
      | false =>
        have HZ2 : Hid (∀ (i : Nat) (y : Kc.Bv), i < j + 1 → bs[i]? = some y → p y = false) := HZ.out rfl
        clear HY HZ
        go_wp2_with fail
        refine (Cl2.out _ HG.out).mono ?_
        rintro e w1 ⟨rfl, G1⟩
        have HG1 : Hid (Gr w w1) := HG.out.trans G1
        clear Cl2 G1 c0 c1
        go_wp2_with fail
        go_roundw
        case rel => exact ⟨j + 1, by omega, by go_num, HZ2.out, HG1.out⟩
        case measure => simp [intOf]; omega
    · have ej : j = n := by omega
      have HE : Hid (Kc.fidx p bs 0 = -1) := Kc.fidx_none fun i x hx => HNo.out i x (by rw [ej, ← HN.out]; exact (List.getElem?_eq_some_iff.1 hx).1) hx
      clear ej
      go_wp2_with fail
      go_ret
      exact ⟨by rw [HE.out]; rfl, HG.out⟩
theorem econt_any {w : World} {ao : Option Addr} {n : Nat} (cap : Nat) {bs : List Kc.Bv} (B : Kc.Bs w ao n bs) (hs : n ≤ 140737488351232) {K : Nat} {pc : Int} (hk : w.cell? ⟨K, 0, none⟩ = some (.int .u32 pc)) :
    Calls Tryz.prog 83 #[.slice ao n cap, .func (.func 102) #[] #[.pointer (some ⟨K, 0, none⟩)]] w fun e w' => e = .returned (.bool (decide (0 ≤ Kc.place pc bs 0))) ∧ Gr w w' := by
  have X : Hid (Calls Tryz.prog 91 #[.slice ao n cap, .func (.func 102) #[] #[.pointer (some ⟨K, 0, none⟩)]] w fun e w' => e = .returned (.int .i64 (Kc.place pc bs 0)) ∧ Gr w w') := by
    unfold Hid
    rw [← Kc.fidx_place]
    exact eidx_at cap B.bq hs K (fun b => decide (b.pc = pc)) fun W b sa sc G _ => eat1_any ((G.cell _ (by exact World.block_lt_of_cell? w _ hk)).trans hk) b.pc sa b.is.length sc
  clear B hs hk
  generalize Kc.place pc bs 0 = z at *
  go_enter Tryz.func83, Tryz.ntmps83
  go_wp2_with fail
  refine Calls.mono X.out ?_
  rintro e w1 ⟨rfl, G1⟩
  have HG : Hid (Gr w w1) := G1
  clear X G1
  go_wp2_with fail
  go_ret
  refine ⟨Kc.ret_bool ?_, HG.out⟩
  first | rfl | simp
theorem fgt1_any {w : World} {C g : Nat} {ao : Option Addr} {n cap : Nat} {bs : List Kc.Bv} (kc : w.cell? ⟨C, 0, none⟩ = some (.pointer (some ⟨g, 0, none⟩))) (k5 : w.cell? ⟨g, 5, none⟩ = some (.slice ao n cap)) (B : Kc.Bs w ao n bs) (hs : n ≤ 140737488351232) (x : Int) (v : Value) :
    Calls Tryz.prog 82 #[.int .u32 x, v, .pointer (some ⟨C, 0, none⟩)] w fun e w' => e = .returned (.bool (!decide (0 ≤ Kc.place x bs 0))) ∧ Gr w w' := by
  have AT : Hid (∀ W : World, Calls Tryz.prog 84 #[.int .u32 x] W fun e w' => ∃ B, e = .returned (.func (.func 102) #[] #[.pointer (some ⟨B, 0, none⟩)]) ∧ w'.cell? ⟨B, 0, none⟩ = some (.int .u32 x) ∧ Gr W w') := fun W => eat_any W x
  have CF : Hid (∀ (W : World) (K : Nat), Gr w W → W.cell? ⟨K, 0, none⟩ = some (.int .u32 x) → Calls Tryz.prog 83 #[.slice ao n cap, .func (.func 102) #[] #[.pointer (some ⟨K, 0, none⟩)]] W fun e w' => e = .returned (.bool (decide (0 ≤ Kc.place x bs 0))) ∧ Gr W w') := fun W K G hk => econt_any cap (B.of G) hs hk
  have HK5 : Hid (∀ W : World, Gr w W → W.cell? ⟨g, 5, none⟩ = some (.slice ao n cap) ∧ W.cell? ⟨C, 0, none⟩ = some (.pointer (some ⟨g, 0, none⟩))) := fun W G => ⟨(G.cell _ (by exact World.block_lt_of_cell? w _ k5)).trans k5, (G.cell _ (by exact World.block_lt_of_cell? w _ kc)).trans kc⟩
  clear B hs
  generalize decide (0 ≤ Kc.place x bs 0) = q at *
  go_enter Tryz.func82, Tryz.ntmps82
  go_wp2_with fail
  go_region_with (first
    | (go_at_call 84; refine (AT.out _).mono ?_; rintro e w2 ⟨K, rfl, hk, G2⟩; have HG2 : Hid (Gr w w2) := Gr.trans (by repeat (first | exact Gr.refl _ | refine Gr.drewN ?_ _ | refine Gr.drew ?_)) G2; have x5 := (HK5.out _ HG2.out).1; have xc := (HK5.out _ HG2.out).2; clear G2 k5 kc)
    | (go_at_call 83; refine (CF.out _ K HG2.out hk).mono ?_; rintro e w3 ⟨rfl, G3⟩; have HG3 : Hid (Gr w w3) := HG2.out.trans G3; clear G3))
  all_goals
    first
      | (go_wp2_with fail; go_ret; exact ⟨rfl, HG3.out⟩)
      | (go_ret; exact ⟨rfl, HG3.out⟩)
end Go.Proofs.YtchllaeembmioaaGreatDoor.En
namespace Go.Proofs.YtchllaeembmioaaGreatDoor.Hh
open Mm Wd

def W (x : Int) : Prop := 0 ≤ x ∧ x < 4294967296
theorem W.lo (n : Int) : W (lo n) := lo_bd n
theorem W.tr (b : Bool) : W (tr b) := by unfold Wd.tr W; cases b <;> simp
theorem W.hi (n : Int) : W (hi n) := by unfold Wd.hi W; omega
theorem W.nat {n : Nat} (h : n < 2 ^ 32) : W (n : Int) := by unfold W; omega
theorem W.lt {a : Int} (h : W a) : a.toNat < 2 ^ 32 := by unfold W at h; omega
theorem W.band {a b : Int} (ha : W a) (hb : W b) : W (band a b) := W.nat (Nat.and_lt_two_pow _ hb.lt)
theorem W.bor {a b : Int} (ha : W a) (hb : W b) : W (bor a b) := W.nat (Nat.or_lt_two_pow ha.lt hb.lt)
theorem W.bxor {a b : Int} (ha : W a) (hb : W b) : W (bxor a b) := W.nat (Nat.xor_lt_two_pow ha.lt hb.lt)
theorem W.div {a b : Int} (ha : W a) (hb : 0 ≤ b) : W (a / b) := by
  unfold W at *
  exact ⟨Int.ediv_nonneg ha.1 hb, Int.lt_of_le_of_lt (Int.ediv_le_self b ha.1) ha.2⟩
theorem W.mod {a b : Int} (hb : W b) (h : ¬ b = 0) : W (a % b) := by
  unfold W at *
  have := Int.emod_nonneg a h
  have := Int.emod_lt_of_pos a (show 0 < b by omega)
  omega
theorem W.ite {p : Prop} [Decidable p] {a b : Int} (ha : W a) (hb : W b) : W (if p then a else b) := by split <;> assumption
theorem W.alu {op a b : Int} (ha : W a) (hb : W b) : W (alu op a b) := by
  have h0 : W 0 := by unfold W; omega
  have h1 : W 4294967295 := by unfold W; omega
  have p := pw_bd b hb.1
  unfold Wd.alu
  refine .ite (.lo _) (.ite (.lo _) (.ite (ha.band hb) (.ite (ha.bor hb) (.ite (ha.bxor hb) (.ite (.lo _) (.ite (ha.div (by omega)) (.ite (.lo _) (.ite (.tr _) (.ite (.tr _) (.ite (.lo _) (.ite (.hi _) (.ite (.hi _) (.ite (.hi _) (.ite ?_ (.ite ?_ (.ite ?_ (.ite ?_ h0)))))))))))))))))
  · exact .ite h1 (.lo _)
  · exact .ite ha (.lo _)
  · exact .ite h1 (ha.div hb.1)
  · unfold rmu; split
    · exact ha
    · exact W.mod hb (by assumption)
theorem W.amo {op a b : Int} (ha : W a) (hb : W b) : W (amo op a b) := by
  have h0 : W 0 := by unfold W; omega
  unfold Wd.amo
  exact .ite hb (.ite (.lo _) (.ite (ha.bxor hb) (.ite (ha.band hb) (.ite (ha.bor hb) (.ite (.ite ha hb) (.ite (.ite hb ha) (.ite (.ite ha hb) (.ite (.ite hb ha) h0))))))))
theorem W.ldV (l : List UInt8) (op a : Int) : W (ldV l op a) := by
  have h0 : W 0 := by unfold W; omega
  unfold Mm.ldV
  refine .ite ?_ h0
  have h := raw_bd l a.toNat (lsz op)
  have c := raw_cap l a.toNat op
  generalize raw l a.toNat (lsz op) = x at *
  unfold wide W
  repeat' split
  all_goals omega
theorem W.nxt {h : Hv} {op a b n : Int} : W (nxt h op a b n) := by
  unfold Hh.nxt
  refine .ite ?_ (.ite (.lo _) (.lo _))
  have := lo_bd (a + n)
  unfold W
  omega
theorem W.reg {h : Hv} (o : h.Ok) (i : Nat) : W (rg h i) := o.reg i
theorem st_of_ld {l : List UInt8} {a : Int} (h : ldOk l 13 a = true) : stOk l 18 a = true := h
structure Ev.Ok (e : Ev) (l : List UInt8) : Prop where
  h : e.h.Ok
  m : e.m.length = l.length
  res : W (e.res.getD 0)
  out : e.out.length ≤ 1
  sto : e.sto.length ≤ 1
theorem stL_len' {l : List UInt8} {op a x : Int} (ok : stOk l op a = true) : (stL l op a x).length = l.length := by unfold stL; rw [ok]; exact len_put _ _ _ _
theorem ev_mk {h : Hv} {l m : List UInt8} {out : List Int} {sto : List (Int × Int)} {res : Option Int} (oh : h.Ok) (om : m.length = l.length) (w : W (res.getD 0)) (oo : out.length ≤ 1) (os : sto.length ≤ 1) : Ev.Ok ⟨h, m, out, sto, res⟩ l := ⟨oh, om, w, oo, os⟩
theorem W.zero : W 0 := by unfold W; omega
theorem W.one : W 1 := by unfold W; omega
theorem efLoad_ok {h : Hv} (o : h.Ok) (l : List UInt8) (op a : Int) : (efLoad h l op a).Ok l := by
  unfold efLoad; split
  · exact ev_mk o rfl (.ldV _ _ _) (by simp) (by simp)
  · exact ev_mk (o.trap 3) rfl .zero (by simp) (by simp)
theorem efStore_ok {h : Hv} (o : h.Ok) (l : List UInt8) (op a x : Int) : (efStore h l op a x).Ok l := by
  unfold efStore; split
  · exact ev_mk o (stL_len' (by assumption)) .zero (by simp) (by simp)
  · exact ev_mk (o.trap 4) rfl .zero (by simp) (by simp)
theorem efAtom_ok {h : Hv} (o : h.Ok) (l : List UInt8) (op a b : Int) (ha : W a) : (efAtom h l op a b).Ok l := by
  unfold efAtom; split
  · unfold efLr; split
    · exact ev_mk (o.hold true ha.1 ha.2) rfl (.ldV _ _ _) (by simp) (by simp)
    · exact ev_mk (o.trap 3) rfl .zero (by simp) (by simp)
  · split
    · unfold efSc; split
      · split
        · exact ev_mk (o.hold false (x := 0) (by omega) (by omega)) (stL_len' (st_of_ld (by assumption))) .zero (by simp) (by simp)
        · exact ev_mk (o.hold false (x := 0) (by omega) (by omega)) rfl .one (by simp) (by simp)
      · exact ev_mk (o.trap 4) rfl .zero (by simp) (by simp)
    · unfold efAmo; split
      · exact ev_mk o (stL_len' (st_of_ld (by assumption))) (.ldV _ _ _) (by simp) (by simp)
      · exact ev_mk (o.trap 4) rfl .zero (by simp) (by simp)
theorem efCall_ok {h : Hv} (o : h.Ok) (l : List UInt8) : (efCall h l).Ok l := by
  unfold efCall; split
  · exact ev_mk o.halt rfl .zero (by simp) (by simp)
  · split
    · exact ev_mk o rfl .zero (by simp) (by simp)
    · exact ev_mk (o.trap 5) rfl .zero (by simp) (by simp)
theorem eff_ok {h : Hv} (o : h.Ok) (l : List UInt8) {op a b n : Int} (ha : W a) (hb : W b) (hn : W n) : (eff h l op a b n).Ok l := by
  unfold eff
  split
  · exact ev_mk o rfl hn (by simp) (by simp)
  split
  · exact ev_mk o rfl (.lo _) (by simp) (by simp)
  split
  · exact ev_mk o rfl (.lo _) (by simp) (by simp)
  split
  · exact efLoad_ok o l _ _
  split
  · exact efStore_ok o l _ _ _
  split
  · exact ev_mk o rfl (ha.alu hn) (by simp) (by simp)
  split
  · exact ev_mk o rfl (ha.alu hb) (by simp) (by simp)
  split
  · exact efAtom_ok o l _ _ _ ha
  split
  · exact efCall_ok o l
  split
  · exact ev_mk (o.trap 6) rfl .zero (by simp) (by simp)
  · exact ev_mk o rfl .zero (by simp) (by simp)
theorem put_ok {h : Hv} (o : h.Ok) (r : Nat) {x : Option Int} (w : W (x.getD 0)) : (h.put r x).Ok := by
  cases x with
  | none => exact o
  | some x => exact o.set r w.1 w.2
theorem on_ok {h : Hv} (o : h.Ok) {x : Int} (w : W x) : (h.on x).Ok := by
  unfold Hv.on; split
  · exact o.go w.1 w.2
  · exact o
end Go.Proofs.YtchllaeembmioaaGreatDoor.Hh
namespace Go.Proofs.YtchllaeembmioaaGreatDoor.Mi
open Mm Wd Hh

structure Mv where
  op : Int
  d : Int
  a : Int
  b : Int
  n : Int
structure Rn where
  h : Hv
  m : List UInt8
  out : List Int
  n : Nat
  sto : List (Int × Int)
  tm : List Int
  here : Int
  own : Bool
  over : Bool
def Rn.get (r : Rn) (k : Int) : Int := if k < 32 then rg r.h k.toNat else r.tm.getD (k - 32).toNat 0
def Rn.put (r : Rn) (k x : Int) : Rn := if 32 ≤ k then { r with tm := r.tm.set (k - 32).toNat x } else { r with h := r.h.set k.toNat x }
def Rn.stop (r : Rn) (pc : Int) : Rn := { r with h := r.h.go pc, over := true }
def Rn.trap (r : Rn) (c : Int) : Rn := { r with h := (r.h.trap c).go r.here, over := true }
def hits (bf bt p : Int) : Nat → Bool
  | 0 => false
  | k + 1 => hits bf bt p k || decide (bf ≤ lo (p + k) ∧ lo (p + k) < bt)
def Rn.stored (r : Rn) (bf bt : Int) (p : Int) (many : Nat) : Rn := { r with sto := r.sto ++ [(p, (many : Int))], own := r.own || hits bf bt p many }
def mLoad (r : Rn) (op p d : Int) : Rn := if ldOk r.m op p = true then r.put d (ldV r.m op p) else r.trap 3
def mStore (bf bt : Int) (r : Rn) (op p x : Int) : Rn := if stOk r.m op p = true then { r with m := stL r.m op p x }.stored bf bt p (ssz op) else r.trap 4
def mLr (r : Rn) (a d : Int) : Rn := if ldOk r.m 13 a = true then { r with h := r.h.hold true a }.put d (ldV r.m 13 a) else r.trap 3
def mSc (bf bt : Int) (r : Rn) (a b d : Int) : Rn := if ldOk r.m 13 a = true then (if r.h.held = true ∧ r.h.heldAt = a then ({ r with h := r.h.hold false 0, m := stL r.m 18 a b }.stored bf bt a 4).put d 0 else { r with h := r.h.hold false 0 }.put d 1) else r.trap 4
def mAmo (bf bt : Int) (r : Rn) (op a b d : Int) : Rn := if ldOk r.m 13 a = true then ({ r with m := stL r.m 18 a (amo op (ldV r.m 13 a) b) }.stored bf bt a 4).put d (ldV r.m 13 a) else r.trap 4
def mAtom (bf bt : Int) (r : Rn) (op a b d : Int) : Rn := if op = 46 then mLr r a d else if op = 47 then mSc bf bt r a b d else mAmo bf bt r op a b d
def mCall (r : Rn) : Rn := if rg r.h 17 = 0 then { r with h := r.h.halt.go r.here, over := true } else if rg r.h 17 = 1 then { r with out := r.out ++ [rg r.h 10] } else r.trap 5
def mAt (steps : Int) (r : Rn) (n : Int) : Rn := if (r.n : Int) = steps ∨ r.own = true then r.stop n else { r with n := r.n + 1, here := n }
def mOp (bf bt : Int) (r : Rn) (c op : Int) (i : Mv) : Rn :=
  if c = 100 then (if holds op (r.get i.a) (r.get i.b) = true then r.stop i.n else r)
  else if c = 200 then mLoad r op (lo (r.get i.a + i.n)) i.d
  else if c = 300 then mStore bf bt r op (lo (r.get i.a + i.n)) (r.get i.b)
  else if c = 400 then r.put i.d (alu op (r.get i.a) (r.get i.b))
  else if c = 500 then r.put i.d (alu op (r.get i.a) i.n)
  else if c = 600 then mAtom bf bt r op (r.get i.a) (r.get i.b) i.d else r
def mic (bf bt steps : Int) (r : Rn) (i : Mv) : Rn :=
  if i.op = 1 then mAt steps r i.n else if i.op = 2 then r.put i.d i.n else if i.op = 3 then r.stop i.n
  else if i.op = 4 then r.stop (lo (r.get i.a + i.n) - lo (r.get i.a + i.n) % 2) else if i.op = 5 then mCall r else if i.op = 6 then r.trap 6
  else mOp bf bt r (i.op - i.op % 100) (i.op % 100) i
def named (op : Int) : Int :=
  if op = 1 ∨ op = 3 then 8 else if op = 2 then 9 else if op = 4 then 10 else if op = 5 ∨ op = 6 then 0
  else if 105 ≤ op ∧ op ≤ 110 then 14 else if 211 ≤ op ∧ op ≤ 215 then 11 else if 316 ≤ op ∧ op ≤ 318 then 14
  else if 428 ≤ op ∧ op ≤ 445 then 7 else if 528 ≤ op ∧ op ≤ 545 then 11 else if 646 ≤ op ∧ op ≤ 656 then 7 else -1
def regOk (has : Bool) (k : Int) : Bool := decide ((has = true ∨ k = 0) ∧ 0 ≤ k ∧ k < 36)
def micOk (i : Mv) : Bool := decide (0 ≤ named i.op) && (decide (8 ≤ named i.op ∨ i.n = 0) && (regOk (decide (named i.op % 2 = 1)) i.d && (regOk (decide (named i.op / 2 % 2 = 1)) i.a && regOk (decide (named i.op / 4 % 2 = 1)) i.b)))
def mayC (code : List Mv) : Bool := decide (code.length ≤ 200) && code.all micOk
def mrun (bf bt steps : Int) (r : Rn) : List Mv → Rn
  | [] => r
  | i :: is => if r.over = true then r else mrun bf bt steps (mic bf bt steps r i) is
def mend (r : Rn) : Rn := if r.over = false ∧ 0 < r.n then { r with h := r.h.go (lo (r.here + 4)) } else r
def mstart (h : Hv) (l : List UInt8) : Rn := ⟨h, l, [], 0, [], [0, 0, 0, 0], h.pc, false, false⟩
def mplay (bf bt steps : Int) (h : Hv) (l : List UInt8) (code : List Mv) : Rn := mend (mrun bf bt steps (mstart h l) code)
structure Rn.Ok (r : Rn) : Prop where
  h : r.h.Ok
  tl : r.tm.length = 4
  tb : ∀ j, 0 ≤ r.tm.getD j 0 ∧ r.tm.getD j 0 < 4294967296
  h0 : 0 ≤ r.here
  h1 : r.here < 4294967296
theorem Rn.Ok.get {r : Rn} (o : r.Ok) (k : Int) : W (r.get k) := by
  unfold Rn.get
  split
  · exact o.h.reg _
  · exact o.tb _
theorem tm_set (l : List Int) (k j : Nat) (x : Int) : (l.set k x).getD j 0 = if j = k ∧ k < l.length then x else l.getD j 0 := by
  simp only [List.getD, List.getElem?_set]
  by_cases e : k = j
  · subst e
    by_cases h : k < l.length
    · simp [h]
    · simp [h]
  · have e2 : ¬ j = k := fun q => e q.symm
    simp [e, e2]
theorem Rn.Ok.put {r : Rn} (o : r.Ok) (k : Int) {x : Int} (hx : W x) : (r.put k x).Ok := by
  unfold Rn.put
  split
  · refine ⟨o.h, by simp [o.tl], fun j => ?_, o.h0, o.h1⟩
    show 0 ≤ (r.tm.set _ x).getD j 0 ∧ _
    rw [tm_set]
    split
    · exact hx
    · exact o.tb j
  · exact ⟨o.h.set _ hx.1 hx.2, o.tl, o.tb, o.h0, o.h1⟩
theorem Rn.Ok.stop {r : Rn} (o : r.Ok) {x : Int} (hx : W x) : (r.stop x).Ok := ⟨o.h.go hx.1 hx.2, o.tl, o.tb, o.h0, o.h1⟩
theorem Rn.Ok.trap {r : Rn} (o : r.Ok) (c : Int) : (r.trap c).Ok := ⟨(o.h.trap c).go o.h0 o.h1, o.tl, o.tb, o.h0, o.h1⟩
theorem Rn.Ok.hart {r : Rn} (o : r.Ok) {h : Hv} (q : h.Ok) : Rn.Ok { r with h := h } := ⟨q, o.tl, o.tb, o.h0, o.h1⟩
theorem Rn.Ok.mem {r : Rn} (o : r.Ok) (m : List UInt8) : Rn.Ok { r with m := m } := ⟨o.h, o.tl, o.tb, o.h0, o.h1⟩
theorem Rn.Ok.stored {r : Rn} (o : r.Ok) (bf bt p : Int) (k : Nat) : (r.stored bf bt p k).Ok := ⟨o.h, o.tl, o.tb, o.h0, o.h1⟩
end Go.Proofs.YtchllaeembmioaaGreatDoor.Mi
namespace Go.Proofs.YtchllaeembmioaaGreatDoor.Ts
open Mm Hh Mi

def hitB (bpc last : Int) (p : Int × Int) : Bool := decide (p.1 < last ∧ bpc < Wd.lo (p.1 + p.2))
def b1 (r : Rn) : Rn := { r with h := (stp r.h r.m).h, m := (stp r.h r.m).m, out := r.out ++ (stp r.h r.m).out, n := r.n + 1, sto := r.sto ++ (stp r.h r.m).sto }
def bstop (bpc last : Int) (k : Nat) (S : Sv) : Bool := decide (¬ S.h.state = 0) || (decide (¬ S.h.pc = Wd.lo (bpc + (4 * k + 4))) || S.sto.any (hitB bpc last))
def bst (bpc last steps : Int) : Nat → Nat → Rn → Rn
  | 0, _, r => r
  | f + 1, k, r => if (r.n : Int) < steps then (if bstop bpc last k (stp r.h r.m) = true then b1 r else bst bpc last steps f (k + 1) (b1 r)) else r
end Go.Proofs.YtchllaeembmioaaGreatDoor.Ts
namespace Go.Proofs.YtchllaeembmioaaGreatDoor.Mi
open Mm Wd Hh

theorem mrun_over (bf bt steps : Int) {r : Rn} (h : r.over = true) : ∀ l, mrun bf bt steps r l = r
  | [] => rfl
  | i :: is => by unfold mrun; rw [if_pos h]
theorem mrun_append (bf bt steps : Int) : ∀ (l k : List Mv) (r : Rn), mrun bf bt steps r (l ++ k) = mrun bf bt steps (mrun bf bt steps r l) k
  | [], k, r => rfl
  | i :: is, k, r => by
    by_cases h : r.over = true
    · rw [mrun_over _ _ _ h, mrun_over _ _ _ h, mrun_over _ _ _ h]
    · rw [List.cons_append, mrun, if_neg h, mrun_append bf bt steps is k, mrun, if_neg h]
theorem mrun_take (bf bt steps : Int) {r : Rn} {code : List Mv} {j : Nat} {i : Mv} (hi : code[j]? = some i) (ho : (mrun bf bt steps r (code.take j)).over = false) : mrun bf bt steps r (code.take (j + 1)) = mic bf bt steps (mrun bf bt steps r (code.take j)) i := by
  rw [List.take_add_one, hi, mrun_append]
  show mrun bf bt steps _ [i] = _
  rw [mrun, if_neg (by simp [ho]), mrun]
theorem mrun_done (bf bt steps : Int) {r : Rn} {code : List Mv} {j : Nat} (ho : (mrun bf bt steps r (code.take j)).over = true) : mrun bf bt steps r code = mrun bf bt steps r (code.take j) := by
  have e := mrun_append bf bt steps (code.take j) (code.drop j) r
  rw [List.take_append_drop] at e
  rw [e, mrun_over _ _ _ ho]
structure Bd (r r' : Rn) : Prop where
  m : r'.m.length = r.m.length
  sto : r'.sto.length ≤ r.sto.length + 1
  out : r'.out.length ≤ r.out.length + 1
  n : r'.n ≤ r.n + 1
theorem Bd.refl (r : Rn) : Bd r r := ⟨rfl, by omega, by omega, by omega⟩
theorem bd_put {r r' : Rn} (h : Bd r r') (k x : Int) : Bd r (r'.put k x) := by
  unfold Rn.put
  split
  · exact ⟨h.m, h.sto, h.out, h.n⟩
  · exact ⟨h.m, h.sto, h.out, h.n⟩
theorem stL_length {l : List UInt8} {op a x : Int} (h : stOk l op a = true) : (stL l op a x).length = l.length := by
  unfold stL
  rw [if_pos h, len_put]
theorem bd_trap (r : Rn) (c : Int) : Bd r (r.trap c) := ⟨rfl, by simp [Rn.trap], by simp [Rn.trap], by simp [Rn.trap]⟩
theorem bd_stop (r : Rn) (c : Int) : Bd r (r.stop c) := ⟨rfl, by simp [Rn.stop], by simp [Rn.stop], by simp [Rn.stop]⟩
theorem bd_stored {r : Rn} {h : Hv} {m : List UInt8} (hm : m.length = r.m.length) (bf bt p : Int) (k : Nat) : Bd r ({ r with h := h, m := m }.stored bf bt p k) := ⟨hm, by simp [Rn.stored], by simp [Rn.stored], by simp [Rn.stored]⟩
theorem bd_hart (r : Rn) (h : Hv) : Bd r { r with h := h } := ⟨rfl, by simp, by simp, by simp⟩
theorem bd_mOp (bf bt : Int) (r : Rn) (c op : Int) (i : Mv) : Bd r (mOp bf bt r c op i) := by
  unfold mOp
  split
  · split
    · exact bd_stop r _
    · exact Bd.refl r
  split
  · unfold mLoad
    split
    · exact bd_put (Bd.refl r) _ _
    · exact bd_trap r _
  split
  · unfold mStore
    split
    · rename_i h
      exact bd_stored (h := r.h) (stL_length h) _ _ _ _
    · exact bd_trap r _
  split
  · exact bd_put (Bd.refl r) _ _
  split
  · exact bd_put (Bd.refl r) _ _
  split
  · unfold mAtom
    split
    · unfold mLr
      split
      · exact bd_put (bd_hart r _) _ _
      · exact bd_trap r _
    split
    · unfold mSc
      split
      · rename_i h
        split
        · exact bd_put (bd_stored (stL_length (st_of_ld h)) _ _ _ _) _ _
        · exact bd_put (bd_hart r _) _ _
      · exact bd_trap r _
    · unfold mAmo
      split
      · rename_i h
        exact bd_put (bd_stored (h := r.h) (stL_length (st_of_ld h)) _ _ _ _) _ _
      · exact bd_trap r _
  · exact Bd.refl r
theorem bd_mic (bf bt steps : Int) (r : Rn) (i : Mv) : Bd r (mic bf bt steps r i) := by
  unfold mic
  split
  · unfold mAt
    split
    · exact bd_stop r _
    · exact ⟨rfl, by simp, by simp, by simp⟩
  split
  · exact bd_put (Bd.refl r) _ _
  split
  · exact bd_stop r _
  split
  · exact bd_stop r _
  split
  · unfold mCall
    split
    · exact ⟨rfl, by simp, by simp, by simp⟩
    split
    · exact ⟨rfl, by simp, by simp, by simp⟩
    · exact bd_trap r _
  split
  · exact bd_trap r _
  · exact bd_mOp bf bt r _ _ i
theorem bd_mrun (bf bt steps : Int) (r : Rn) (code : List Mv) : ∀ j, (mrun bf bt steps r (code.take j)).m.length = r.m.length ∧ (mrun bf bt steps r (code.take j)).sto.length ≤ r.sto.length + j ∧ (mrun bf bt steps r (code.take j)).out.length ≤ r.out.length + j ∧ (mrun bf bt steps r (code.take j)).n ≤ r.n + j
  | 0 => ⟨rfl, by simp [mrun], by simp [mrun], by simp [mrun]⟩
  | j + 1 => by
    obtain ⟨h1, h2, h3, h4⟩ := bd_mrun bf bt steps r code j
    cases hi : code[j]? with
    | none =>
      have e : code.take (j + 1) = code.take j := by rw [List.take_add_one, hi]; simp
      rw [e]
      exact ⟨h1, by omega, by omega, by omega⟩
    | some i =>
      cases ho : (mrun bf bt steps r (code.take j)).over with
      | false =>
        rw [mrun_take bf bt steps hi ho]
        have b := bd_mic bf bt steps (mrun bf bt steps r (code.take j)) i
        have b2 := b.sto
        have b3 := b.out
        have b4 := b.n
        exact ⟨b.m.trans h1, by omega, by omega, by omega⟩
      | true =>
        have e : mrun bf bt steps r (code.take (j + 1)) = mrun bf bt steps r (code.take j) := by
          rw [List.take_add_one, hi, mrun_append, mrun_over _ _ _ ho]
        rw [e]
        exact ⟨h1, by omega, by omega, by omega⟩
theorem micOk_named {i : Mv} (h : micOk i = true) : 0 ≤ named i.op ∧ (0 ≤ i.d ∧ i.d < 36) ∧ (0 ≤ i.a ∧ i.a < 36) ∧ 0 ≤ i.b ∧ i.b < 36 := by
  unfold micOk regOk at h
  simp only [Bool.and_eq_true, decide_eq_true_eq] at h
  obtain ⟨h1, _, ⟨_, h2⟩, ⟨_, h3⟩, ⟨_, h4⟩⟩ := h
  exact ⟨h1, h2, h3, h4⟩
end Go.Proofs.YtchllaeembmioaaGreatDoor.Mi
