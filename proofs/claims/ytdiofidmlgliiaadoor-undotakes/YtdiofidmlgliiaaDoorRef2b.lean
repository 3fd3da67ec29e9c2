/-
  What the document's chapter 2 answers: an instruction's op and form (B2). Conditions: words are from 0 to 2^32 - 1.
-/
import Derived.Test.YtdiofidmlgliiaaDoorRef2a
namespace Go.Proofs.YtdiofidmlgliiaaDoor.Re
open Go.ChangeShapes Go.WideShapes Go.ChangeAt Go.RowKit Dw
set_option linter.unusedVariables false
set_option linter.unusedSimpArgs false

variable {a : Int}
theorem pkR_pk {n : Int} : (l : List (Int × Int)) → (∀ x ∈ l, x.2 ≠ 0) → pkR n l = if Dc.pk n l = 0 then -1 else Dc.pk n l
  | [], _ => rfl
  | (a, o) :: r, h => by
    have ho : o ≠ 0 := h (a, o) (by simp)
    by_cases e : n = a
    · simp [pkR, Dc.pk, e, ho]
    · simp [pkR, Dc.pk, e]
      exact pkR_pk r fun x hx => h x (by simp [hx])
/-- A form's letter. -/
def letter (f : Int) : Int := if f = 1 then 85 else if f = 2 then 74 else if f = 3 then 73 else if f = 4 then 72 else if f = 5 then 66 else if f = 6 then 83 else if f = 7 then 82 else if f = 8 then 65 else 69
def rop (a : Int) : Int := if Dc.dop a = 0 then -1 else Dc.dop a
def FormOK (a : Int) (e : Ending) : Prop := ∃ l, e = .returned (.tuple #[.int .i64 (rop a), .int .u8 l]) ∧ (Dc.dop a ≠ 0 → l = letter (Dc.frm (Dc.dop a)))
theorem form_pk (a n : Int) (L : List (Int × Int)) (lt f : Int) (hd : Dc.dop a = Dc.pk n L) (hL : ∀ x ∈ L, x.2 ≠ 0 ∧ Dc.frm x.2 = f) (hf : letter f = lt) :
    FormOK a (.returned (.tuple #[.int .i64 (pkR n L), .int .u8 lt])) := by
  refine ⟨lt, ?_, fun h => ?_⟩
  · rw [pkR_pk L (fun x hx => (hL x hx).1)]; unfold rop; rw [hd]
  · rw [hd] at h ⊢
    rw [← hf]
    have : Dc.pk n L ≠ 0 → Dc.frm (Dc.pk n L) = f := Dc.pk_cases (P := fun k => k ≠ 0 → Dc.frm k = f) L (fun h => absurd rfl h) (fun x hx _ _ => (hL x hx).2)
    rw [this h]
theorem form_const (a k lt : Int) (hd : Dc.dop a = k) (hk : k ≠ 0) (hf : letter (Dc.frm k) = lt) : FormOK a (.returned (.tuple #[.int .i64 k, .int .u8 lt])) := by
  refine ⟨lt, ?_, fun h => ?_⟩
  · unfold rop; rw [hd, if_neg hk]
  · rw [hd, hf]
theorem form_none (a lt : Int) (hd : Dc.dop a = 0) : FormOK a (.returned (.tuple #[.int .i64 (-1), .int .u8 lt])) :=
  ⟨lt, by unfold rop; rw [hd]; rfl, fun h => absurd hd h⟩
theorem raw46 (h0 : 0 ≤ a) (h1 : a < 4294967296) (h : Dc.raw a = 46) : a % 128 = 47 ∧ a / 4096 % 8 = 2 ∧ a / 134217728 = 2 := by
  have := (Dc.raw_told h0 h1 (by omega)).1
  rw [h] at this
  have : a % 128 + a / 4096 % 8 * 4096 + a / 134217728 * 134217728 = 268443695 := this
  omega
theorem dop_raw (h0 : 0 ≤ a) (h1 : a < 4294967296) (h : a % 128 ≠ 47) : Dc.dop a = Dc.raw a := by
  unfold Dc.dop
  rw [if_neg]
  intro ⟨h46, _⟩
  exact h (raw46 h0 h1 h46).1
theorem cells1 (w : World) (l : List (Int × Int)) (t1 t2 : TypeId) : ∀ i (hi : i < l.length), ((w.alloc (.cells (l.map (fun x => Value.int .i64 x.1)).toArray t1)).alloc (.cells (l.map (fun x => Value.int .i64 x.2)).toArray t2)).cell? ⟨w.heap.size, i, none⟩ = some (.int .i64 l[i].1) := by
  intro i hi
  rw [World.cell?_alloc_past _ _ _ (by simp), World.cell?_alloc_new]
  simp [hi]
theorem cells2 (w : World) (l : List (Int × Int)) (t1 t2 : TypeId) : ∀ i (hi : i < l.length), ((w.alloc (.cells (l.map (fun x => Value.int .i64 x.1)).toArray t1)).alloc (.cells (l.map (fun x => Value.int .i64 x.2)).toArray t2)).cell? ⟨w.heap.size + 1, i, none⟩ = some (.int .i64 l[i].2) := by
  intro i hi
  have h : w.heap.size + 1 = (w.alloc (.cells (l.map (fun x => Value.int .i64 x.1)).toArray t1)).heap.size := by simp
  rw [h, World.cell?_alloc_new]
  simp [hi]
def Form (a : Int) : Prop := ∀ w : World, Calls Tryd.prog 90 #[.int .u32 a] w fun e w' => FormOK a e ∧ Gr w w'

set_option maxHeartbeats 1000000 in
theorem form_55 (a : Int) (h0 : 0 ≤ a) (h1 : a < 4294967296) (hl : a % 128 = 55) : Form a := by
  intro w
  have D : Hid (FormOK a (.returned (.tuple #[.int .i64 1, .int .u8 85]))) := form_const a 1 85 ((dop_raw h0 h1 (by omega)).trans (by rw [Dc.raw_of1 hl]; rfl)) (by omega) (by decide)
  go_enter Tryd.func90, Tryd.ntmps90
  go_wp2_with fail
  refine (Cut_0_6 a _ h0 h1).mono ?_
  rintro e w' ⟨rfl, rfl⟩
  go_wp2_with fail
  refine (Cut_12_14 a _ h0 h1).mono ?_
  rintro e w' ⟨rfl, rfl⟩
  go_wp2_with fail
  refine (Cut_25_31 a _ h0 h1).mono ?_
  rintro e w' ⟨rfl, rfl⟩
  go_wp2_with fail
  go_ret2
  exact ⟨D.out, Gr.refl _⟩

set_option maxHeartbeats 1000000 in
theorem form_23 (a : Int) (h0 : 0 ≤ a) (h1 : a < 4294967296) (hl : a % 128 = 23) : Form a := by
  intro w
  have D : Hid (FormOK a (.returned (.tuple #[.int .i64 2, .int .u8 85]))) := form_const a 2 85 ((dop_raw h0 h1 (by omega)).trans (by rw [Dc.raw_of1 hl]; rfl)) (by omega) (by decide)
  go_enter Tryd.func90, Tryd.ntmps90
  go_wp2_with fail
  refine (Cut_0_6 a _ h0 h1).mono ?_
  rintro e w' ⟨rfl, rfl⟩
  go_wp2_with fail
  refine (Cut_12_14 a _ h0 h1).mono ?_
  rintro e w' ⟨rfl, rfl⟩
  go_wp2_with fail
  refine (Cut_25_31 a _ h0 h1).mono ?_
  rintro e w' ⟨rfl, rfl⟩
  go_wp2_with fail
  go_ret2
  exact ⟨D.out, Gr.refl _⟩

set_option maxHeartbeats 1000000 in
theorem form_111 (a : Int) (h0 : 0 ≤ a) (h1 : a < 4294967296) (hl : a % 128 = 111) : Form a := by
  intro w
  have D : Hid (FormOK a (.returned (.tuple #[.int .i64 3, .int .u8 74]))) := form_const a 3 74 ((dop_raw h0 h1 (by omega)).trans (by rw [Dc.raw_of1 hl]; rfl)) (by omega) (by decide)
  go_enter Tryd.func90, Tryd.ntmps90
  go_wp2_with fail
  refine (Cut_0_6 a _ h0 h1).mono ?_
  rintro e w' ⟨rfl, rfl⟩
  go_wp2_with fail
  refine (Cut_12_14 a _ h0 h1).mono ?_
  rintro e w' ⟨rfl, rfl⟩
  go_wp2_with fail
  refine (Cut_25_31 a _ h0 h1).mono ?_
  rintro e w' ⟨rfl, rfl⟩
  go_wp2_with fail
  go_ret2
  exact ⟨D.out, Gr.refl _⟩

set_option maxHeartbeats 1000000 in
theorem form_103 (a : Int) (h0 : 0 ≤ a) (h1 : a < 4294967296) (hl : a % 128 = 103) : Form a := by
  intro w
  have D : Hid (FormOK a (.returned (.tuple #[.int .i64 (pkR (a / 4096 % 8) [(0, 4)]), .int .u8 73]))) := form_pk a (a / 4096 % 8) [(0, 4)] 73 3 ((dop_raw h0 h1 (by omega)).trans (by rw [Dc.raw_of1 hl]; rfl)) (by decide) (by decide)
  go_enter Tryd.func90, Tryd.ntmps90
  go_wp2_with fail
  refine (Cut_0_6 a _ h0 h1).mono ?_
  rintro e w' ⟨rfl, rfl⟩
  go_wp2_with fail
  refine (Cut_12_14 a _ h0 h1).mono ?_
  rintro e w' ⟨rfl, rfl⟩
  go_wp2_with fail
  refine (Cut_25_31 a _ h0 h1).mono ?_
  rintro e w' ⟨rfl, rfl⟩
  go_wp2_with fail
  refine (pick_any _ [(0, 4)] _ _ _ (by decide) (cells1 _ [(0, 4)] _ _) (cells2 _ [(0, 4)] _ _)).mono ?_
  rintro e w' ⟨rfl, rfl⟩
  go_wp2_with fail
  go_ret2
  exact ⟨D.out, ((Gr.refl _).alloc _ _).alloc _ _⟩

set_option maxHeartbeats 1000000 in
theorem form_99 (a : Int) (h0 : 0 ≤ a) (h1 : a < 4294967296) (hl : a % 128 = 99) : Form a := by
  intro w
  have D : Hid (FormOK a (.returned (.tuple #[.int .i64 (pkR (a / 4096 % 8) Dc.lB), .int .u8 66]))) := form_pk a (a / 4096 % 8) Dc.lB 66 5 ((dop_raw h0 h1 (by omega)).trans (by rw [Dc.raw_of1 hl]; rfl)) (by decide) (by decide)
  go_enter Tryd.func90, Tryd.ntmps90
  go_wp2_with fail
  refine (Cut_0_6 a _ h0 h1).mono ?_
  rintro e w' ⟨rfl, rfl⟩
  go_wp2_with fail
  refine (Cut_12_14 a _ h0 h1).mono ?_
  rintro e w' ⟨rfl, rfl⟩
  go_wp2_with fail
  refine (Cut_25_31 a _ h0 h1).mono ?_
  rintro e w' ⟨rfl, rfl⟩
  go_wp2_with fail
  refine (pick_any _ Dc.lB _ _ _ (by decide) (cells1 _ Dc.lB _ _) (cells2 _ Dc.lB _ _)).mono ?_
  rintro e w' ⟨rfl, rfl⟩
  go_wp2_with fail
  go_ret2
  exact ⟨D.out, ((Gr.refl _).alloc _ _).alloc _ _⟩

set_option maxHeartbeats 1000000 in
theorem form_3 (a : Int) (h0 : 0 ≤ a) (h1 : a < 4294967296) (hl : a % 128 = 3) : Form a := by
  intro w
  have D : Hid (FormOK a (.returned (.tuple #[.int .i64 (pkR (a / 4096 % 8) Dc.lL), .int .u8 73]))) := form_pk a (a / 4096 % 8) Dc.lL 73 3 ((dop_raw h0 h1 (by omega)).trans (by rw [Dc.raw_of1 hl]; rfl)) (by decide) (by decide)
  go_enter Tryd.func90, Tryd.ntmps90
  go_wp2_with fail
  refine (Cut_0_6 a _ h0 h1).mono ?_
  rintro e w' ⟨rfl, rfl⟩
  go_wp2_with fail
  refine (Cut_12_14 a _ h0 h1).mono ?_
  rintro e w' ⟨rfl, rfl⟩
  go_wp2_with fail
  refine (Cut_25_31 a _ h0 h1).mono ?_
  rintro e w' ⟨rfl, rfl⟩
  go_wp2_with fail
  refine (pick_any _ Dc.lL _ _ _ (by decide) (cells1 _ Dc.lL _ _) (cells2 _ Dc.lL _ _)).mono ?_
  rintro e w' ⟨rfl, rfl⟩
  go_wp2_with fail
  go_ret2
  exact ⟨D.out, ((Gr.refl _).alloc _ _).alloc _ _⟩

set_option maxHeartbeats 1000000 in
theorem form_35 (a : Int) (h0 : 0 ≤ a) (h1 : a < 4294967296) (hl : a % 128 = 35) : Form a := by
  intro w
  have D : Hid (FormOK a (.returned (.tuple #[.int .i64 (pkR (a / 4096 % 8) Dc.lS), .int .u8 83]))) := form_pk a (a / 4096 % 8) Dc.lS 83 6 ((dop_raw h0 h1 (by omega)).trans (by rw [Dc.raw_of1 hl]; rfl)) (by decide) (by decide)
  go_enter Tryd.func90, Tryd.ntmps90
  go_wp2_with fail
  refine (Cut_0_6 a _ h0 h1).mono ?_
  rintro e w' ⟨rfl, rfl⟩
  go_wp2_with fail
  refine (Cut_12_14 a _ h0 h1).mono ?_
  rintro e w' ⟨rfl, rfl⟩
  go_wp2_with fail
  refine (Cut_25_31 a _ h0 h1).mono ?_
  rintro e w' ⟨rfl, rfl⟩
  go_wp2_with fail
  refine (pick_any _ Dc.lS _ _ _ (by decide) (cells1 _ Dc.lS _ _) (cells2 _ Dc.lS _ _)).mono ?_
  rintro e w' ⟨rfl, rfl⟩
  go_wp2_with fail
  go_ret2
  exact ⟨D.out, ((Gr.refl _).alloc _ _).alloc _ _⟩

set_option maxHeartbeats 1000000 in
theorem form_15 (a : Int) (h0 : 0 ≤ a) (h1 : a < 4294967296) (hl : a % 128 = 15) : Form a := by
  intro w
  have D : Hid (FormOK a (.returned (.tuple #[.int .i64 (pkR (a / 4096 % 8) [(0, 57)]), .int .u8 73]))) := form_pk a (a / 4096 % 8) [(0, 57)] 73 3 ((dop_raw h0 h1 (by omega)).trans (by rw [Dc.raw_of1 hl]; rfl)) (by decide) (by decide)
  go_enter Tryd.func90, Tryd.ntmps90
  go_wp2_with fail
  refine (Cut_0_6 a _ h0 h1).mono ?_
  rintro e w' ⟨rfl, rfl⟩
  go_wp2_with fail
  refine (Cut_12_14 a _ h0 h1).mono ?_
  rintro e w' ⟨rfl, rfl⟩
  go_wp2_with fail
  refine (Cut_25_31 a _ h0 h1).mono ?_
  rintro e w' ⟨rfl, rfl⟩
  go_wp2_with fail
  refine (pick_any _ [(0, 57)] _ _ _ (by decide) (cells1 _ [(0, 57)] _ _) (cells2 _ [(0, 57)] _ _)).mono ?_
  rintro e w' ⟨rfl, rfl⟩
  go_wp2_with fail
  go_ret2
  exact ⟨D.out, ((Gr.refl _).alloc _ _).alloc _ _⟩

set_option maxHeartbeats 1000000 in
theorem form_115 (a : Int) (h0 : 0 ≤ a) (h1 : a < 4294967296) (hl : a % 128 = 115) : Form a := by
  intro w
  have D : Hid (FormOK a (.returned (.tuple #[.int .i64 (pkR a Dc.lE), .int .u8 69]))) := form_pk a a Dc.lE 69 9 ((dop_raw h0 h1 (by omega)).trans (by rw [Dc.raw_of1 hl]; rfl)) (by decide) (by decide)
  go_enter Tryd.func90, Tryd.ntmps90
  go_wp2_with fail
  refine (Cut_0_6 a _ h0 h1).mono ?_
  rintro e w' ⟨rfl, rfl⟩
  go_wp2_with fail
  refine (Cut_12_14 a _ h0 h1).mono ?_
  rintro e w' ⟨rfl, rfl⟩
  go_wp2_with fail
  refine (Cut_25_31 a _ h0 h1).mono ?_
  rintro e w' ⟨rfl, rfl⟩
  go_wp2_with fail
  refine (pick_any _ Dc.lE _ _ _ (by decide) (cells1 _ Dc.lE _ _) (cells2 _ Dc.lE _ _)).mono ?_
  rintro e w' ⟨rfl, rfl⟩
  go_wp2_with fail
  go_ret2
  exact ⟨D.out, ((Gr.refl _).alloc _ _).alloc _ _⟩

set_option maxHeartbeats 1000000 in
theorem form_19_1 (a : Int) (h0 : 0 ≤ a) (h1 : a < 4294967296) (hl : a % 128 = 19) (hm : a / 4096 % 8 = 1) : Form a := by
  intro w
  have D : Hid (FormOK a (.returned (.tuple #[.int .i64 (pkR (8 * (a / 33554432) + 1) Dc.lH), .int .u8 72]))) := form_pk a (8 * (a / 33554432) + 1) Dc.lH 72 4 ((dop_raw h0 h1 (by omega)).trans (by rw [Dc.raw_of2 hl hm]; rfl)) (by decide) (by decide)
  go_enter Tryd.func90, Tryd.ntmps90
  go_wp2_with fail
  refine (Cut_0_6 a _ h0 h1).mono ?_
  rintro e w' ⟨rfl, rfl⟩
  go_wp2_with fail
  refine (Cut_12_14 a _ h0 h1).mono ?_
  rintro e w' ⟨rfl, rfl⟩
  go_wp2_with fail
  refine (Cut_25_31 a _ h0 h1).mono ?_
  rintro e w' ⟨rfl, rfl⟩
  go_wp2_with fail
  refine (pick_any _ Dc.lH _ _ _ (by decide) (cells1 _ Dc.lH _ _) (cells2 _ Dc.lH _ _)).mono ?_
  rintro e w' ⟨rfl, rfl⟩
  go_wp2_with fail
  go_ret2
  exact ⟨D.out, ((Gr.refl _).alloc _ _).alloc _ _⟩

set_option maxHeartbeats 1000000 in
theorem form_19_5 (a : Int) (h0 : 0 ≤ a) (h1 : a < 4294967296) (hl : a % 128 = 19) (hm : a / 4096 % 8 = 5) : Form a := by
  intro w
  have D : Hid (FormOK a (.returned (.tuple #[.int .i64 (pkR (8 * (a / 33554432) + 5) Dc.lH), .int .u8 72]))) := form_pk a (8 * (a / 33554432) + 5) Dc.lH 72 4 ((dop_raw h0 h1 (by omega)).trans (by rw [Dc.raw_of2 hl hm]; rfl)) (by decide) (by decide)
  go_enter Tryd.func90, Tryd.ntmps90
  go_wp2_with fail
  refine (Cut_0_6 a _ h0 h1).mono ?_
  rintro e w' ⟨rfl, rfl⟩
  go_wp2_with fail
  refine (Cut_12_14 a _ h0 h1).mono ?_
  rintro e w' ⟨rfl, rfl⟩
  go_wp2_with fail
  refine (Cut_25_31 a _ h0 h1).mono ?_
  rintro e w' ⟨rfl, rfl⟩
  go_wp2_with fail
  refine (pick_any _ Dc.lH _ _ _ (by decide) (cells1 _ Dc.lH _ _) (cells2 _ Dc.lH _ _)).mono ?_
  rintro e w' ⟨rfl, rfl⟩
  go_wp2_with fail
  go_ret2
  exact ⟨D.out, ((Gr.refl _).alloc _ _).alloc _ _⟩

set_option maxHeartbeats 1000000 in
theorem form_19 (a : Int) (h0 : 0 ≤ a) (h1 : a < 4294967296) (hl : a % 128 = 19) (hm1 : a / 4096 % 8 ≠ 1) (hm5 : a / 4096 % 8 ≠ 5) : Form a := by
  intro w
  have D : Hid (FormOK a (.returned (.tuple #[.int .i64 (pkR (a / 4096 % 8) Dc.lI), .int .u8 73]))) := form_pk a (a / 4096 % 8) Dc.lI 73 3 ((dop_raw h0 h1 (by omega)).trans (by
    rw [Dc.raw_of1 hl]
    show (if a / 4096 % 8 = 1 ∨ a / 4096 % 8 = 5 then _ else _) = _
    rw [if_neg (by omega)])) (by decide) (by decide)
  have b1 : (a / 4096 % 8 == 1) = false := by simpa using hm1
  have b5 : (a / 4096 % 8 == 5) = false := by simpa using hm5
  go_enter Tryd.func90, Tryd.ntmps90
  go_wp2_with fail
  refine (Cut_0_6 a _ h0 h1).mono ?_
  rintro e w' ⟨rfl, rfl⟩
  go_wp2_with fail
  refine (Cut_12_14 a _ h0 h1).mono ?_
  rintro e w' ⟨rfl, rfl⟩
  go_wp2_with fail
  refine (Cut_25_31 a _ h0 h1).mono ?_
  rintro e w' ⟨rfl, rfl⟩
  go_wp2_with fail
  refine (pick_any _ Dc.lI _ _ _ (by decide) (cells1 _ Dc.lI _ _) (cells2 _ Dc.lI _ _)).mono ?_
  rintro e w' ⟨rfl, rfl⟩
  go_wp2_with fail
  go_ret2
  exact ⟨D.out, ((Gr.refl _).alloc _ _).alloc _ _⟩

set_option maxHeartbeats 1000000 in
theorem form_51_0 (a : Int) (h0 : 0 ≤ a) (h1 : a < 4294967296) (hl : a % 128 = 51) (hu : a / 33554432 = 0) : Form a := by
  intro w
  have D : Hid (FormOK a (.returned (.tuple #[.int .i64 (pkR (a / 4096 % 8) Dc.lR0), .int .u8 82]))) := form_pk a (a / 4096 % 8) Dc.lR0 82 7 ((dop_raw h0 h1 (by omega)).trans (by rw [Dc.raw_of hl rfl hu]; rfl)) (by decide) (by decide)
  go_enter Tryd.func90, Tryd.ntmps90
  go_wp2_with fail
  refine (Cut_0_6 a _ h0 h1).mono ?_
  rintro e w' ⟨rfl, rfl⟩
  go_wp2_with fail
  refine (Cut_12_14 a _ h0 h1).mono ?_
  rintro e w' ⟨rfl, rfl⟩
  go_wp2_with fail
  refine (Cut_25_31 a _ h0 h1).mono ?_
  rintro e w' ⟨rfl, rfl⟩
  go_wp2_with fail
  refine (pick_any _ Dc.lR0 _ _ _ (by decide) (cells1 _ Dc.lR0 _ _) (cells2 _ Dc.lR0 _ _)).mono ?_
  rintro e w' ⟨rfl, rfl⟩
  go_wp2_with fail
  go_ret2
  exact ⟨D.out, ((Gr.refl _).alloc _ _).alloc _ _⟩

set_option maxHeartbeats 1000000 in
theorem form_51_32 (a : Int) (h0 : 0 ≤ a) (h1 : a < 4294967296) (hl : a % 128 = 51) (hu : a / 33554432 = 32) : Form a := by
  intro w
  have D : Hid (FormOK a (.returned (.tuple #[.int .i64 (pkR (a / 4096 % 8) Dc.lR32), .int .u8 82]))) := form_pk a (a / 4096 % 8) Dc.lR32 82 7 ((dop_raw h0 h1 (by omega)).trans (by rw [Dc.raw_of hl rfl hu]; rfl)) (by decide) (by decide)
  go_enter Tryd.func90, Tryd.ntmps90
  go_wp2_with fail
  refine (Cut_0_6 a _ h0 h1).mono ?_
  rintro e w' ⟨rfl, rfl⟩
  go_wp2_with fail
  refine (Cut_12_14 a _ h0 h1).mono ?_
  rintro e w' ⟨rfl, rfl⟩
  go_wp2_with fail
  refine (Cut_25_31 a _ h0 h1).mono ?_
  rintro e w' ⟨rfl, rfl⟩
  go_wp2_with fail
  refine (pick_any _ Dc.lR32 _ _ _ (by decide) (cells1 _ Dc.lR32 _ _) (cells2 _ Dc.lR32 _ _)).mono ?_
  rintro e w' ⟨rfl, rfl⟩
  go_wp2_with fail
  go_ret2
  exact ⟨D.out, ((Gr.refl _).alloc _ _).alloc _ _⟩

set_option maxHeartbeats 1000000 in
theorem form_51_1 (a : Int) (h0 : 0 ≤ a) (h1 : a < 4294967296) (hl : a % 128 = 51) (hu : a / 33554432 = 1) : Form a := by
  intro w
  have D : Hid (FormOK a (.returned (.tuple #[.int .i64 (pkR (a / 4096 % 8) Dc.lR1), .int .u8 82]))) := form_pk a (a / 4096 % 8) Dc.lR1 82 7 ((dop_raw h0 h1 (by omega)).trans (by rw [Dc.raw_of hl rfl hu]; rfl)) (by decide) (by decide)
  go_enter Tryd.func90, Tryd.ntmps90
  go_wp2_with fail
  refine (Cut_0_6 a _ h0 h1).mono ?_
  rintro e w' ⟨rfl, rfl⟩
  go_wp2_with fail
  refine (Cut_12_14 a _ h0 h1).mono ?_
  rintro e w' ⟨rfl, rfl⟩
  go_wp2_with fail
  refine (Cut_25_31 a _ h0 h1).mono ?_
  rintro e w' ⟨rfl, rfl⟩
  go_wp2_with fail
  refine (pick_any _ Dc.lR1 _ _ _ (by decide) (cells1 _ Dc.lR1 _ _) (cells2 _ Dc.lR1 _ _)).mono ?_
  rintro e w' ⟨rfl, rfl⟩
  go_wp2_with fail
  go_ret2
  exact ⟨D.out, ((Gr.refl _).alloc _ _).alloc _ _⟩

set_option maxHeartbeats 1000000 in
theorem form_51 (a : Int) (h0 : 0 ≤ a) (h1 : a < 4294967296) (hl : a % 128 = 51) (hu0 : a / 33554432 ≠ 0) (hu1 : a / 33554432 ≠ 1) (hu32 : a / 33554432 ≠ 32) : Form a := by
  intro w
  have D : Hid (FormOK a (.returned (.tuple #[.int .i64 (-1), .int .u8 69]))) := form_none a 69 ((dop_raw h0 h1 (by omega)).trans (by
    rw [Dc.raw_of1 hl]
    show (if a / 33554432 = 0 then _ else if a / 33554432 = 32 then _ else if a / 33554432 = 1 then _ else _) = _
    rw [if_neg hu0, if_neg hu32, if_neg hu1]))
  have b0 : (a / 33554432 == 0) = false := by simpa using hu0
  have b1 : (a / 33554432 == 1) = false := by simpa using hu1
  have b32 : (a / 33554432 == 32) = false := by simpa using hu32
  go_enter Tryd.func90, Tryd.ntmps90
  go_wp2_with fail
  refine (Cut_0_6 a _ h0 h1).mono ?_
  rintro e w' ⟨rfl, rfl⟩
  go_wp2_with fail
  refine (Cut_12_14 a _ h0 h1).mono ?_
  rintro e w' ⟨rfl, rfl⟩
  go_wp2_with fail
  refine (Cut_25_31 a _ h0 h1).mono ?_
  rintro e w' ⟨rfl, rfl⟩
  go_wp2_with fail
  go_ret2
  exact ⟨D.out, Gr.refl _⟩

set_option maxHeartbeats 1000000 in
theorem form_47_m (a : Int) (h0 : 0 ≤ a) (h1 : a < 4294967296) (hl : a % 128 = 47) (hm : a / 4096 % 8 ≠ 2) : Form a := by
  intro w
  have D : Hid (FormOK a (.returned (.tuple #[.int .i64 (-1), .int .u8 65]))) := form_none a 65 (by
    have : Dc.raw a = 0 := by
      rw [Dc.raw_of1 hl]
      show (if a / 4096 % 8 = 2 then _ else _) = _
      rw [if_neg hm]
    unfold Dc.dop; rw [this]; rfl)
  have b2 : (a / 4096 % 8 != 2) = true := by simpa using hm
  go_enter Tryd.func90, Tryd.ntmps90
  go_wp2_with fail
  refine (Cut_0_6 a _ h0 h1).mono ?_
  rintro e w' ⟨rfl, rfl⟩
  go_wp2_with fail
  refine (Cut_12_14 a _ h0 h1).mono ?_
  rintro e w' ⟨rfl, rfl⟩
  go_wp2_with fail
  refine (Cut_25_31 a _ h0 h1).mono ?_
  rintro e w' ⟨rfl, rfl⟩
  go_wp2_with fail
  go_ret2
  exact ⟨D.out, Gr.refl _⟩

set_option maxHeartbeats 1000000 in
theorem form_47_2 (a : Int) (h0 : 0 ≤ a) (h1 : a < 4294967296) (hl : a % 128 = 47) (hm : a / 4096 % 8 = 2) (hc : a / 134217728 = 2) (hz : a / 1048576 % 32 ≠ 0) : Form a := by
  intro w
  have D : Hid (FormOK a (.returned (.tuple #[.int .i64 (-1), .int .u8 65]))) := form_none a 65 (by
    have : Dc.raw a = 46 := by rw [Dc.raw_of2 hl hm]; show Dc.pk (a / 33554432 / 4) Dc.lA = _; rw [show a / 33554432 / 4 = a / 134217728 by omega]; rw [hc]; rfl
    unfold Dc.dop; rw [if_pos ⟨this, hz⟩])
  have bz : (a / 1048576 % 32 != 0) = true := by simpa using hz
  go_enter Tryd.func90, Tryd.ntmps90
  go_wp2_with fail
  refine (Cut_0_6 a _ h0 h1).mono ?_
  rintro e w' ⟨rfl, rfl⟩
  go_wp2_with fail
  refine (Cut_12_14 a _ h0 h1).mono ?_
  rintro e w' ⟨rfl, rfl⟩
  go_wp2_with fail
  refine (Cut_25_31 a _ h0 h1).mono ?_
  rintro e w' ⟨rfl, rfl⟩
  go_wp2_with fail
  refine (Cut_27_31 a _ h0 h1).mono ?_
  rintro e w' ⟨rfl, rfl⟩
  go_wp2_with fail
  refine (Cut_20_24 a _ h0 h1).mono ?_
  rintro e w' ⟨rfl, rfl⟩
  go_wp2_with fail
  go_ret2
  exact ⟨D.out, Gr.refl _⟩

set_option maxHeartbeats 1000000 in
theorem form_47_z (a : Int) (h0 : 0 ≤ a) (h1 : a < 4294967296) (hl : a % 128 = 47) (hm : a / 4096 % 8 = 2) (hc : a / 134217728 = 2) (hz : a / 1048576 % 32 = 0) : Form a := by
  intro w
  have D : Hid (FormOK a (.returned (.tuple #[.int .i64 (pkR 2 Dc.lA), .int .u8 65]))) := form_pk a 2 Dc.lA 65 8 (by
    have : Dc.raw a = 46 := by rw [Dc.raw_of2 hl hm]; show Dc.pk (a / 33554432 / 4) Dc.lA = _; rw [show a / 33554432 / 4 = a / 134217728 by omega]; rw [hc]; rfl
    unfold Dc.dop; rw [if_neg (by omega), this]; rfl) (by decide) (by decide)
  go_enter Tryd.func90, Tryd.ntmps90
  go_wp2_with fail
  refine (Cut_0_6 a _ h0 h1).mono ?_
  rintro e w' ⟨rfl, rfl⟩
  go_wp2_with fail
  refine (Cut_12_14 a _ h0 h1).mono ?_
  rintro e w' ⟨rfl, rfl⟩
  go_wp2_with fail
  refine (Cut_25_31 a _ h0 h1).mono ?_
  rintro e w' ⟨rfl, rfl⟩
  go_wp2_with fail
  refine (Cut_27_31 a _ h0 h1).mono ?_
  rintro e w' ⟨rfl, rfl⟩
  go_wp2_with fail
  refine (Cut_20_24 a _ h0 h1).mono ?_
  rintro e w' ⟨rfl, rfl⟩
  go_wp2_with fail
  refine (Cut_27_31 a _ h0 h1).mono ?_
  rintro e w' ⟨rfl, rfl⟩
  go_wp2_with fail
  refine (pick_any _ Dc.lA _ _ _ (by decide) (cells1 _ Dc.lA _ _) (cells2 _ Dc.lA _ _)).mono ?_
  rintro e w' ⟨rfl, rfl⟩
  go_wp2_with fail
  go_ret2
  exact ⟨D.out, ((Gr.refl _).alloc _ _).alloc _ _⟩

set_option maxHeartbeats 1000000 in
theorem form_47 (a : Int) (h0 : 0 ≤ a) (h1 : a < 4294967296) (hl : a % 128 = 47) (hm : a / 4096 % 8 = 2) (hc : a / 134217728 ≠ 2) : Form a := by
  intro w
  have D : Hid (FormOK a (.returned (.tuple #[.int .i64 (pkR (a / 134217728) Dc.lA), .int .u8 65]))) := form_pk a (a / 134217728) Dc.lA 65 8 (by
    have : Dc.raw a = Dc.pk (a / 134217728) Dc.lA := by rw [Dc.raw_of2 hl hm]; show Dc.pk (a / 33554432 / 4) Dc.lA = _; rw [show a / 33554432 / 4 = a / 134217728 by omega]
    unfold Dc.dop; rw [if_neg (fun h => hc (raw46 h0 h1 h.1).2.2), this]) (by decide) (by decide)
  have bc : (a / 134217728 == 2) = false := by simpa using hc
  go_enter Tryd.func90, Tryd.ntmps90
  go_wp2_with fail
  refine (Cut_0_6 a _ h0 h1).mono ?_
  rintro e w' ⟨rfl, rfl⟩
  go_wp2_with fail
  refine (Cut_12_14 a _ h0 h1).mono ?_
  rintro e w' ⟨rfl, rfl⟩
  go_wp2_with fail
  refine (Cut_25_31 a _ h0 h1).mono ?_
  rintro e w' ⟨rfl, rfl⟩
  go_wp2_with fail
  refine (Cut_27_31 a _ h0 h1).mono ?_
  rintro e w' ⟨rfl, rfl⟩
  go_wp2_with fail
  refine (Cut_27_31 a _ h0 h1).mono ?_
  rintro e w' ⟨rfl, rfl⟩
  go_wp2_with fail
  refine (pick_any _ Dc.lA _ _ _ (by decide) (cells1 _ Dc.lA _ _) (cells2 _ Dc.lA _ _)).mono ?_
  rintro e w' ⟨rfl, rfl⟩
  go_wp2_with fail
  go_ret2
  exact ⟨D.out, ((Gr.refl _).alloc _ _).alloc _ _⟩

set_option maxHeartbeats 1000000 in
theorem form_no (a : Int) (h0 : 0 ≤ a) (h1 : a < 4294967296) (n55 : a % 128 ≠ 55) (n23 : a % 128 ≠ 23) (n111 : a % 128 ≠ 111) (n103 : a % 128 ≠ 103) (n99 : a % 128 ≠ 99) (n3 : a % 128 ≠ 3) (n35 : a % 128 ≠ 35) (n19 : a % 128 ≠ 19) (n51 : a % 128 ≠ 51) (n47 : a % 128 ≠ 47) (n15 : a % 128 ≠ 15) (n115 : a % 128 ≠ 115) : Form a := by
  intro w
  have D : Hid (FormOK a (.returned (.tuple #[.int .i64 (-1), .int .u8 69]))) := form_none a 69 ((dop_raw h0 h1 (by omega)).trans (by unfold Dc.raw Dc.rawOf; simp [n55, n23, n111, n103, n99, n3, n35, n19, n51, n47, n15, n115]))
  have b55 : (a % 128 == 55) = false := by simpa using n55
  have b23 : (a % 128 == 23) = false := by simpa using n23
  have b111 : (a % 128 == 111) = false := by simpa using n111
  have b103 : (a % 128 == 103) = false := by simpa using n103
  have b99 : (a % 128 == 99) = false := by simpa using n99
  have b3 : (a % 128 == 3) = false := by simpa using n3
  have b35 : (a % 128 == 35) = false := by simpa using n35
  have b19 : (a % 128 == 19) = false := by simpa using n19
  have b51 : (a % 128 == 51) = false := by simpa using n51
  have b47 : (a % 128 == 47) = false := by simpa using n47
  have b15 : (a % 128 == 15) = false := by simpa using n15
  have b115 : (a % 128 == 115) = false := by simpa using n115
  go_enter Tryd.func90, Tryd.ntmps90
  go_wp2_with fail
  refine (Cut_0_6 a _ h0 h1).mono ?_
  rintro e w' ⟨rfl, rfl⟩
  go_wp2_with fail
  refine (Cut_12_14 a _ h0 h1).mono ?_
  rintro e w' ⟨rfl, rfl⟩
  go_wp2_with fail
  refine (Cut_25_31 a _ h0 h1).mono ?_
  rintro e w' ⟨rfl, rfl⟩
  go_wp2_with fail
  go_ret2
  exact ⟨D.out, Gr.refl _⟩

theorem form_any (a : Int) (h0 : 0 ≤ a) (h1 : a < 4294967296) : Form a := by
  by_cases n55 : a % 128 = 55
  · exact form_55 a h0 h1 n55
  by_cases n23 : a % 128 = 23
  · exact form_23 a h0 h1 n23
  by_cases n111 : a % 128 = 111
  · exact form_111 a h0 h1 n111
  by_cases n103 : a % 128 = 103
  · exact form_103 a h0 h1 n103
  by_cases n99 : a % 128 = 99
  · exact form_99 a h0 h1 n99
  by_cases n3 : a % 128 = 3
  · exact form_3 a h0 h1 n3
  by_cases n35 : a % 128 = 35
  · exact form_35 a h0 h1 n35
  by_cases n19 : a % 128 = 19
  · by_cases m1 : a / 4096 % 8 = 1
    · exact form_19_1 a h0 h1 n19 m1
    by_cases m5 : a / 4096 % 8 = 5
    · exact form_19_5 a h0 h1 n19 m5
    exact form_19 a h0 h1 n19 m1 m5
  by_cases n51 : a % 128 = 51
  · by_cases u0 : a / 33554432 = 0
    · exact form_51_0 a h0 h1 n51 u0
    by_cases u1 : a / 33554432 = 1
    · exact form_51_1 a h0 h1 n51 u1
    by_cases u32 : a / 33554432 = 32
    · exact form_51_32 a h0 h1 n51 u32
    exact form_51 a h0 h1 n51 u0 u1 u32
  by_cases n47 : a % 128 = 47
  · by_cases m : a / 4096 % 8 = 2
    · by_cases c : a / 134217728 = 2
      · by_cases z : a / 1048576 % 32 = 0
        · exact form_47_z a h0 h1 n47 m c z
        · exact form_47_2 a h0 h1 n47 m c z
      · exact form_47 a h0 h1 n47 m c
    · exact form_47_m a h0 h1 n47 m
  by_cases n15 : a % 128 = 15
  · exact form_15 a h0 h1 n15
  by_cases n115 : a % 128 = 115
  · exact form_115 a h0 h1 n115
  exact form_no a h0 h1 n55 n23 n111 n103 n99 n3 n35 n19 n51 n47 n15 n115
end Go.Proofs.YtdiofidmlgliiaaDoor.Re
