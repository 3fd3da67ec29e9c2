/-
  What package decode's small functions return: taken, within, row, told, span. Conditions: the tables hold what their initialisers lay ('Tab'); words are from 0 to 2^32 - 1.
-/
import Derived.Test.YtdiofidmlgliiaaDoorTabs
namespace Go.Proofs.YtdiofidmlgliiaaDoor.Dw
open Go.ChangeShapes Go.WideShapes Go.ChangeAt Go.RowKit
set_option linter.unusedVariables false

variable {a b : Int}
theorem ret_int {k : IntKind} (h : a = b) : Ending.returned (.int k a) = .returned (.int k b) := by rw [h]
theorem ret_bool {a b : Bool} (h : a = b) : Ending.returned (.bool a) = .returned (.bool b) := by rw [h]
theorem wrap_u32' (n : Int) : IntKind.u32.wrap n = n % 4294967296 := by rfl
theorem ofInt32 (a : Nat) (ha : (a : Int) < 4294967296) : (BitVec.ofInt 32 (a : Int)).toNat = a := by
  rw [BitVec.ofInt_natCast, BitVec.toNat_ofNat]; exact Nat.mod_eq_of_lt (by omega)
theorem bits_and_u32 (a b : Int) (ha : 0 ≤ a) (ha' : a < 4294967296) (hb : 0 ≤ b) (hb' : b < 4294967296) : bits .and .u32 a b = Wd.band a b := by
  obtain ⟨a, rfl⟩ := Int.eq_ofNat_of_zero_le ha
  obtain ⟨b, rfl⟩ := Int.eq_ofNat_of_zero_le hb
  have hx : a &&& b < 2 ^ 32 := Nat.and_lt_two_pow _ (by omega)
  show IntKind.u32.wrap ((BitVec.ofInt 32 (a : Int) &&& BitVec.ofInt 32 (b : Int)).toNat : Int) = _
  rw [BitVec.toNat_and, ofInt32 a ha', ofInt32 b hb', wrap_u32']
  simp only [Wd.band, Int.toNat_natCast]
  omega
theorem bits_or_u32 (a b : Int) (ha : 0 ≤ a) (ha' : a < 4294967296) (hb : 0 ≤ b) (hb' : b < 4294967296) : bits .or .u32 a b = Wd.bor a b := by
  obtain ⟨a, rfl⟩ := Int.eq_ofNat_of_zero_le ha
  obtain ⟨b, rfl⟩ := Int.eq_ofNat_of_zero_le hb
  have hx : a ||| b < 2 ^ 32 := Nat.or_lt_two_pow (by omega) (by omega)
  show IntKind.u32.wrap ((BitVec.ofInt 32 (a : Int) ||| BitVec.ofInt 32 (b : Int)).toNat : Int) = _
  rw [BitVec.toNat_or, ofInt32 a ha', ofInt32 b hb', wrap_u32']
  simp only [Wd.bor, Int.toNat_natCast]
  omega

theorem within_any (a b c : Int) (w : World) :
    Calls Tryd.prog 107 #[.int .i64 a, .int .i64 b, .int .i64 c] w fun e w' => e = .returned (.bool (decide (b ≤ a) && decide (a ≤ c))) ∧ w' = w := by
  by_cases h : b ≤ a
  all_goals
    go_enter Tryd.func107, Tryd.ntmps107
    go_wp2
    go_ret
    exact ⟨ret_bool (by simp [h]; try omega), rfl⟩
theorem and_mask (x : Int) (n : Nat) (h0 : 0 ≤ x) (h1 : x < 4294967296) (hn : n ≤ 31) : bits .and .u32 x ((2 ^ n - 1) % 4294967296) = x % 2 ^ n := by
  have hp : (2 : Int) ^ n = ((2 ^ n : Nat) : Int) := by simp
  have hb : (2 : Nat) ^ n ≤ 2 ^ 31 := Nat.pow_le_pow_right (by omega) hn
  have hb0 : 0 < (2 : Nat) ^ n := Nat.two_pow_pos _
  obtain ⟨x, rfl⟩ := Int.eq_ofNat_of_zero_le h0
  have e : ((2 : Int) ^ n - 1) % 4294967296 = ((2 ^ n - 1 : Nat) : Int) := by rw [hp]; omega
  rw [e, bits_and_u32 _ _ h0 h1 (by omega) (by omega)]
  unfold Wd.band
  rw [Int.toNat_natCast, Int.toNat_natCast, Nat.and_two_pow_sub_one_eq_mod, hp]
  omega
theorem bor_lo (x y : Int) (i : Nat) (hx : 0 ≤ x) (hy : 0 ≤ y) (h : x < 2 ^ i) : Wd.bor x (y * 2 ^ i) = x + y * 2 ^ i := by
  obtain ⟨x, rfl⟩ := Int.eq_ofNat_of_zero_le hx
  obtain ⟨y, rfl⟩ := Int.eq_ofNat_of_zero_le hy
  have e : (y : Int) * 2 ^ i = ((y * 2 ^ i : Nat) : Int) := by simp
  have h' : x < 2 ^ i := by
    have : ((2 : Int) ^ i) = ((2 ^ i : Nat) : Int) := by simp
    rw [this] at h; omega
  rw [e]
  unfold Wd.bor
  rw [Int.toNat_natCast, Int.toNat_natCast, Nat.or_comm, Dc.nor_add _ _ _ h']
  omega
theorem bor_comm (x y : Int) : Wd.bor x y = Wd.bor y x := by unfold Wd.bor; rw [Nat.or_comm]
theorem bor_hi (x y : Int) (i : Nat) (hx : 0 ≤ x) (hy : 0 ≤ y) (h : x < 2 ^ i) : Wd.bor (y * 2 ^ i) x = y * 2 ^ i + x := by
  rw [bor_comm, bor_lo x y i hx hy h]; omega
theorem taken_any (a at' n : Int) (w : World) (ha : 0 ≤ a) (ha' : a < 4294967296) (h1 : 0 ≤ at') (h2 : at' ≤ 31) (h3 : 0 ≤ n) (h4 : n ≤ 31) :
    Calls Tryd.prog 108 #[.int .u32 a, .int .i64 at', .int .i64 n] w fun e w' => e = .returned (.int .u32 (a / 2 ^ at'.toNat % 2 ^ n.toNat)) ∧ ∃ m, w' = w.drewN m := by
  go_enter Tryd.func108, Tryd.ntmps108
  go_wp2
  refine wp_region_quiet_lit (by kernel_rfl) (by kernel_rfl) ?_
  go_big_quiet_step (fail)
  go_big_quiet_step (fail)
  go_big_quiet_step (fail)
  go_big_quiet_step (fail)
  go_big_quiet_step (fail)
  go_big_quiet_step (fail)
  go_big_quiet_step (fail)
  go_big_quiet_step (fail)
  refine wpQuiet_nil ?_; intro _ h; obtain ⟨nq, h2⟩ := h; subst h2
  go_wp2
  go_ret
  refine ⟨ret_int (and_mask _ _ (Int.ediv_nonneg ha (Int.pow_nonneg (by omega))) ?_ (by omega)), _, rfl⟩
  exact Int.lt_of_le_of_lt (Int.ediv_le_self _ ha) ha'
/-- 'taken' at numbers that are known. -/
theorem taken_as (a at' n r : Int) (w : World) (ha : 0 ≤ a) (ha' : a < 4294967296) (h1 : 0 ≤ at') (h2 : at' ≤ 31) (h3 : 0 ≤ n) (h4 : n ≤ 31) (hr : a / 2 ^ at'.toNat % 2 ^ n.toNat = r) :
    Calls Tryd.prog 108 #[.int .u32 a, .int .i64 at', .int .i64 n] w fun e w' => e = .returned (.int .u32 r) ∧ ∃ m, w' = w.drewN m := hr ▸ taken_any a at' n w ha ha' h1 h2 h3 h4
theorem row_num (low m u : Int) (h1 : 0 ≤ low) (h2 : low < 4096) (h3 : 0 ≤ m) (h4 : m < 8) (h5 : 0 ≤ u) (h6 : u < 128) :
    bits .or .u32 (bits .or .u32 low (m * 4096)) (u * 33554432) = low + m * 4096 + u * 33554432 := by
  rw [show m * 4096 = m * 2 ^ 12 by omega, show u * 33554432 = u * 2 ^ 25 by omega]
  rw [bits_or_u32 low _ h1 (by omega) (by omega) (by omega), bor_lo low m 12 h1 h3 (by omega)]
  rw [bits_or_u32 _ _ (by omega) (by omega) (by omega) (by omega), bor_lo _ u 25 (by omega) h5 (by omega)]
theorem row_any (op first low : Int) (b : Nat) (ms : List Int) (w : World) (T : Tab w) (hm : ∀ i n, ms[i]? = some n → w.cell? ⟨b, i, none⟩ = some (.int .u32 n)) (hms : ∀ n ∈ ms, 0 ≤ n ∧ n < 8)
    (h1 : first ≤ op) (h2 : op - first < ms.length) (h3 : 0 ≤ op) (h4 : op < 60) (h5 : 0 ≤ low) (h6 : low < 128) (h7 : -1 ≤ first) (h8 : ms.length ≤ 20) :
    Calls Tryd.prog 106 #[.int .i64 op, .int .i64 first, .int .u32 low, .slice (some ⟨b, 0, none⟩) ms.length ms.length] w fun e w' => e = .returned (.int .u32 (Dc.rowOf op first low ms)) ∧ Gr w w' := by
  obtain ⟨m, hm1⟩ : ∃ m, ms[(op - first).toNat]? = some m := ⟨_, List.getElem?_eq_getElem (by omega)⟩
  have hl : Dc.uppers.length = 60 := by decide
  obtain ⟨u, hu1⟩ : ∃ u, Dc.uppers[op.toNat]? = some u := ⟨_, List.getElem?_eq_getElem (by omega)⟩
  have hmb := hms m (List.mem_of_getElem? hm1)
  have hub : 0 ≤ u ∧ u < 128 := by
    have : ∀ u ∈ Dc.uppers, 0 ≤ u ∧ u < 128 := by decide
    exact this u (List.mem_of_getElem? hu1)
  have c1 := hm _ _ hm1
  have c2 := T.uppers _ _ hu1
  have E : Hid (Dc.rowOf op first low ms = low + m * 4096 + u * 33554432) := by
    show _ = _
    unfold Dc.rowOf Dc.nth
    rw [List.getD, hm1, List.getD, hu1]; rfl
  clear hm hms hm1 hu1 T hl
  go_enter Tryd.func106, Tryd.ntmps106
  go_wp2
  refine wp_region_quiet_lit (by kernel_rfl) (by kernel_rfl) ?_
  go_big_quiet_step (fail)
  go_big_quiet_step (fail)
  go_big_quiet_step (fail)
  go_big_quiet_step (fail)
  go_big_quiet_step (fail)
  go_big_quiet_step (fail)
  go_big_quiet_step (fail)
  go_big_quiet_step (fail)
  go_big_quiet_step (fail)
  go_big_quiet_step (fail)
  go_big_quiet_step (fail)
  go_big_quiet_step (fail)
  go_big_quiet_step (fail)
  go_big_quiet_step (fail)
  go_big_quiet_step (fail)
  refine wpQuiet_nil ?_; intro _ h; obtain ⟨nq, h2⟩ := h; subst h2
  go_wp2
  go_ret
  rw [E.out]
  exact ⟨ret_int (row_num low m u h5 (by omega) hmb.1 hmb.2 hub.1 hub.2), (Gr.refl w).drewN _⟩
theorem within_yes (a b c : Int) (w : World) (h : b ≤ a ∧ a ≤ c) :
    Calls Tryd.prog 107 #[.int .i64 a, .int .i64 b, .int .i64 c] w fun e w' => e = .returned (.bool true) ∧ w' = w := by
  refine (within_any a b c w).mono ?_
  rintro e w' ⟨rfl, rfl⟩
  exact ⟨ret_bool (by simp [h]), rfl⟩
theorem within_no (a b c : Int) (w : World) (h : ¬ (b ≤ a ∧ a ≤ c)) :
    Calls Tryd.prog 107 #[.int .i64 a, .int .i64 b, .int .i64 c] w fun e w' => e = .returned (.bool false) ∧ w' = w := by
  refine (within_any a b c w).mono ?_
  rintro e w' ⟨rfl, rfl⟩
  exact ⟨ret_bool (by rw [← Bool.decide_and]; simpa using h), rfl⟩
theorem cells_new (w : World) (ms : List Int) (t : TypeId) : ∀ i n, ms[i]? = some n → (w.alloc (.cells (ms.map (Value.int .u32)).toArray t)).cell? ⟨w.heap.size, i, none⟩ = some (.int .u32 n) := by
  intro i n h
  rw [World.cell?_alloc_new]; simp [h]
/-- What is told of an op: its form, its bits. -/
def Told (op : Int) : Prop := ∀ w : World, Tab w → Calls Tryd.prog 75 #[.int .i64 op] w fun e w' => e = .returned (.tuple #[.int .i64 (Dc.frm op), .int .u32 (Dc.tbits op)]) ∧ Gr w w'
theorem ret_two {c d : Int} (h : a = c) (h' : b = d) : Ending.returned (.tuple #[.int .i64 a, .int .u32 b]) = .returned (.tuple #[.int .i64 c, .int .u32 d]) := by rw [h, h']
theorem told_4 (op : Int) (h1 : 4 ≤ op) (h2 : op ≤ 4) : Told op := by
  intro w T
  have F : Hid (Dc.frm op = 3) := by
    show _ = _
    unfold Dc.frm
    repeat (first | rw [if_pos (by omega)] | rw [if_neg (by omega)])
  have B : Hid (Dc.tbits op = Dc.rowOf op 4 103 [0]) := by
    show _ = _
    unfold Dc.tbits
    repeat (first | rw [if_pos (by omega)] | rw [if_neg (by omega)])
  have e1 : (op == 1) = false := by simp; omega
  have e2 : (op == 2) = false := by simp; omega
  have e3 : (op == 3) = false := by simp; omega
  have e4 : (op == 4) = true := by simp; omega
  have e57 : (op == 57) = false := by simp; omega
  have e58 : (op == 58) = false := by simp; omega
  have e59 : (op == 59) = false := by simp; omega
  go_enter Tryd.func75, Tryd.ntmps75
  go_wp2_with (go_at_call 106; refine (row_any _ _ _ _ [0] _ (T.of ((Gr.refl _).alloc _ _)) (cells_new _ [0] _) (by decide) (by omega) (by simp <;> omega) (by omega) (by omega) (by omega) (by omega) (by omega) (by decide)).mono ?_; rintro e w' ⟨rfl, g⟩)
  go_ret2
  exact ⟨ret_two F.out.symm B.out.symm, ((Gr.refl _).alloc _ _).trans g⟩
theorem told_5 (op : Int) (h1 : 5 ≤ op) (h2 : op ≤ 10) : Told op := by
  intro w T
  have F : Hid (Dc.frm op = 5) := by
    show _ = _
    unfold Dc.frm
    repeat (first | rw [if_pos (by omega)] | rw [if_neg (by omega)])
  have B : Hid (Dc.tbits op = Dc.rowOf op 5 99 [0, 1, 4, 5, 6, 7]) := by
    show _ = _
    unfold Dc.tbits
    repeat (first | rw [if_pos (by omega)] | rw [if_neg (by omega)])
  have e1 : (op == 1) = false := by simp; omega
  have e2 : (op == 2) = false := by simp; omega
  have e3 : (op == 3) = false := by simp; omega
  have e4 : (op == 4) = false := by simp; omega
  have e57 : (op == 57) = false := by simp; omega
  have e58 : (op == 58) = false := by simp; omega
  have e59 : (op == 59) = false := by simp; omega
  go_enter Tryd.func75, Tryd.ntmps75
  go_wp2_with (first | (go_at_call 107; first | (refine (within_yes _ _ _ _ (by omega)).mono ?_; rintro e w' ⟨rfl, rfl⟩) | (refine (within_no _ _ _ _ (by omega)).mono ?_; rintro e w' ⟨rfl, rfl⟩)) | (go_at_call 106; refine (row_any _ _ _ _ [0, 1, 4, 5, 6, 7] _ (T.of ((Gr.refl _).alloc _ _)) (cells_new _ [0, 1, 4, 5, 6, 7] _) (by decide) (by omega) (by simp <;> omega) (by omega) (by omega) (by omega) (by omega) (by omega) (by decide)).mono ?_; rintro e w' ⟨rfl, g⟩))
  go_ret2
  exact ⟨ret_two F.out.symm B.out.symm, ((Gr.refl _).alloc _ _).trans g⟩
theorem told_11 (op : Int) (h1 : 11 ≤ op) (h2 : op ≤ 15) : Told op := by
  intro w T
  have F : Hid (Dc.frm op = 3) := by
    show _ = _
    unfold Dc.frm
    repeat (first | rw [if_pos (by omega)] | rw [if_neg (by omega)])
  have B : Hid (Dc.tbits op = Dc.rowOf op 11 3 [0, 1, 2, 4, 5]) := by
    show _ = _
    unfold Dc.tbits
    repeat (first | rw [if_pos (by omega)] | rw [if_neg (by omega)])
  have e1 : (op == 1) = false := by simp; omega
  have e2 : (op == 2) = false := by simp; omega
  have e3 : (op == 3) = false := by simp; omega
  have e4 : (op == 4) = false := by simp; omega
  have e57 : (op == 57) = false := by simp; omega
  have e58 : (op == 58) = false := by simp; omega
  have e59 : (op == 59) = false := by simp; omega
  go_enter Tryd.func75, Tryd.ntmps75
  go_wp2_with (first | (go_at_call 107; first | (refine (within_yes _ _ _ _ (by omega)).mono ?_; rintro e w' ⟨rfl, rfl⟩) | (refine (within_no _ _ _ _ (by omega)).mono ?_; rintro e w' ⟨rfl, rfl⟩)) | (go_at_call 106; refine (row_any _ _ _ _ [0, 1, 2, 4, 5] _ (T.of ((Gr.refl _).alloc _ _)) (cells_new _ [0, 1, 2, 4, 5] _) (by decide) (by omega) (by simp <;> omega) (by omega) (by omega) (by omega) (by omega) (by omega) (by decide)).mono ?_; rintro e w' ⟨rfl, g⟩))
  go_ret2
  exact ⟨ret_two F.out.symm B.out.symm, ((Gr.refl _).alloc _ _).trans g⟩
theorem told_16 (op : Int) (h1 : 16 ≤ op) (h2 : op ≤ 18) : Told op := by
  intro w T
  have F : Hid (Dc.frm op = 6) := by
    show _ = _
    unfold Dc.frm
    repeat (first | rw [if_pos (by omega)] | rw [if_neg (by omega)])
  have B : Hid (Dc.tbits op = Dc.rowOf op 16 35 [0, 1, 2]) := by
    show _ = _
    unfold Dc.tbits
    repeat (first | rw [if_pos (by omega)] | rw [if_neg (by omega)])
  have e1 : (op == 1) = false := by simp; omega
  have e2 : (op == 2) = false := by simp; omega
  have e3 : (op == 3) = false := by simp; omega
  have e4 : (op == 4) = false := by simp; omega
  have e57 : (op == 57) = false := by simp; omega
  have e58 : (op == 58) = false := by simp; omega
  have e59 : (op == 59) = false := by simp; omega
  go_enter Tryd.func75, Tryd.ntmps75
  go_wp2_with (first | (go_at_call 107; first | (refine (within_yes _ _ _ _ (by omega)).mono ?_; rintro e w' ⟨rfl, rfl⟩) | (refine (within_no _ _ _ _ (by omega)).mono ?_; rintro e w' ⟨rfl, rfl⟩)) | (go_at_call 106; refine (row_any _ _ _ _ [0, 1, 2] _ (T.of ((Gr.refl _).alloc _ _)) (cells_new _ [0, 1, 2] _) (by decide) (by omega) (by simp <;> omega) (by omega) (by omega) (by omega) (by omega) (by omega) (by decide)).mono ?_; rintro e w' ⟨rfl, g⟩))
  go_ret2
  exact ⟨ret_two F.out.symm B.out.symm, ((Gr.refl _).alloc _ _).trans g⟩
theorem told_19 (op : Int) (h1 : 19 ≤ op) (h2 : op ≤ 24) : Told op := by
  intro w T
  have F : Hid (Dc.frm op = 3) := by
    show _ = _
    unfold Dc.frm
    repeat (first | rw [if_pos (by omega)] | rw [if_neg (by omega)])
  have B : Hid (Dc.tbits op = Dc.rowOf op 19 19 [0, 2, 3, 4, 6, 7]) := by
    show _ = _
    unfold Dc.tbits
    repeat (first | rw [if_pos (by omega)] | rw [if_neg (by omega)])
  have e1 : (op == 1) = false := by simp; omega
  have e2 : (op == 2) = false := by simp; omega
  have e3 : (op == 3) = false := by simp; omega
  have e4 : (op == 4) = false := by simp; omega
  have e57 : (op == 57) = false := by simp; omega
  have e58 : (op == 58) = false := by simp; omega
  have e59 : (op == 59) = false := by simp; omega
  go_enter Tryd.func75, Tryd.ntmps75
  go_wp2_with (first | (go_at_call 107; first | (refine (within_yes _ _ _ _ (by omega)).mono ?_; rintro e w' ⟨rfl, rfl⟩) | (refine (within_no _ _ _ _ (by omega)).mono ?_; rintro e w' ⟨rfl, rfl⟩)) | (go_at_call 106; refine (row_any _ _ _ _ [0, 2, 3, 4, 6, 7] _ (T.of ((Gr.refl _).alloc _ _)) (cells_new _ [0, 2, 3, 4, 6, 7] _) (by decide) (by omega) (by simp <;> omega) (by omega) (by omega) (by omega) (by omega) (by omega) (by decide)).mono ?_; rintro e w' ⟨rfl, g⟩))
  go_ret2
  exact ⟨ret_two F.out.symm B.out.symm, ((Gr.refl _).alloc _ _).trans g⟩
theorem told_25 (op : Int) (h1 : 25 ≤ op) (h2 : op ≤ 27) : Told op := by
  intro w T
  have F : Hid (Dc.frm op = 4) := by
    show _ = _
    unfold Dc.frm
    repeat (first | rw [if_pos (by omega)] | rw [if_neg (by omega)])
  have B : Hid (Dc.tbits op = Dc.rowOf op 25 19 [1, 5, 5]) := by
    show _ = _
    unfold Dc.tbits
    repeat (first | rw [if_pos (by omega)] | rw [if_neg (by omega)])
  have e1 : (op == 1) = false := by simp; omega
  have e2 : (op == 2) = false := by simp; omega
  have e3 : (op == 3) = false := by simp; omega
  have e4 : (op == 4) = false := by simp; omega
  have e57 : (op == 57) = false := by simp; omega
  have e58 : (op == 58) = false := by simp; omega
  have e59 : (op == 59) = false := by simp; omega
  go_enter Tryd.func75, Tryd.ntmps75
  go_wp2_with (first | (go_at_call 107; first | (refine (within_yes _ _ _ _ (by omega)).mono ?_; rintro e w' ⟨rfl, rfl⟩) | (refine (within_no _ _ _ _ (by omega)).mono ?_; rintro e w' ⟨rfl, rfl⟩)) | (go_at_call 106; refine (row_any _ _ _ _ [1, 5, 5] _ (T.of ((Gr.refl _).alloc _ _)) (cells_new _ [1, 5, 5] _) (by decide) (by omega) (by simp <;> omega) (by omega) (by omega) (by omega) (by omega) (by omega) (by decide)).mono ?_; rintro e w' ⟨rfl, g⟩))
  go_ret2
  exact ⟨ret_two F.out.symm B.out.symm, ((Gr.refl _).alloc _ _).trans g⟩
theorem told_28 (op : Int) (h1 : 28 ≤ op) (h2 : op ≤ 37) : Told op := by
  intro w T
  have F : Hid (Dc.frm op = 7) := by
    show _ = _
    unfold Dc.frm
    repeat (first | rw [if_pos (by omega)] | rw [if_neg (by omega)])
  have B : Hid (Dc.tbits op = Dc.rowOf op 28 51 [0, 0, 1, 2, 3, 4, 5, 5, 6, 7]) := by
    show _ = _
    unfold Dc.tbits
    repeat (first | rw [if_pos (by omega)] | rw [if_neg (by omega)])
  have e1 : (op == 1) = false := by simp; omega
  have e2 : (op == 2) = false := by simp; omega
  have e3 : (op == 3) = false := by simp; omega
  have e4 : (op == 4) = false := by simp; omega
  have e57 : (op == 57) = false := by simp; omega
  have e58 : (op == 58) = false := by simp; omega
  have e59 : (op == 59) = false := by simp; omega
  go_enter Tryd.func75, Tryd.ntmps75
  go_wp2_with (first | (go_at_call 107; first | (refine (within_yes _ _ _ _ (by omega)).mono ?_; rintro e w' ⟨rfl, rfl⟩) | (refine (within_no _ _ _ _ (by omega)).mono ?_; rintro e w' ⟨rfl, rfl⟩)) | (go_at_call 106; refine (row_any _ _ _ _ [0, 0, 1, 2, 3, 4, 5, 5, 6, 7] _ (T.of ((Gr.refl _).alloc _ _)) (cells_new _ [0, 0, 1, 2, 3, 4, 5, 5, 6, 7] _) (by decide) (by omega) (by simp <;> omega) (by omega) (by omega) (by omega) (by omega) (by omega) (by decide)).mono ?_; rintro e w' ⟨rfl, g⟩))
  go_ret2
  exact ⟨ret_two F.out.symm B.out.symm, ((Gr.refl _).alloc _ _).trans g⟩
theorem told_38 (op : Int) (h1 : 38 ≤ op) (h2 : op ≤ 45) : Told op := by
  intro w T
  have F : Hid (Dc.frm op = 7) := by
    show _ = _
    unfold Dc.frm
    repeat (first | rw [if_pos (by omega)] | rw [if_neg (by omega)])
  have B : Hid (Dc.tbits op = Dc.rowOf op 38 51 [0, 1, 2, 3, 4, 5, 6, 7]) := by
    show _ = _
    unfold Dc.tbits
    repeat (first | rw [if_pos (by omega)] | rw [if_neg (by omega)])
  have e1 : (op == 1) = false := by simp; omega
  have e2 : (op == 2) = false := by simp; omega
  have e3 : (op == 3) = false := by simp; omega
  have e4 : (op == 4) = false := by simp; omega
  have e57 : (op == 57) = false := by simp; omega
  have e58 : (op == 58) = false := by simp; omega
  have e59 : (op == 59) = false := by simp; omega
  go_enter Tryd.func75, Tryd.ntmps75
  go_wp2_with (first | (go_at_call 107; first | (refine (within_yes _ _ _ _ (by omega)).mono ?_; rintro e w' ⟨rfl, rfl⟩) | (refine (within_no _ _ _ _ (by omega)).mono ?_; rintro e w' ⟨rfl, rfl⟩)) | (go_at_call 106; refine (row_any _ _ _ _ [0, 1, 2, 3, 4, 5, 6, 7] _ (T.of ((Gr.refl _).alloc _ _)) (cells_new _ [0, 1, 2, 3, 4, 5, 6, 7] _) (by decide) (by omega) (by simp <;> omega) (by omega) (by omega) (by omega) (by omega) (by omega) (by decide)).mono ?_; rintro e w' ⟨rfl, g⟩))
  go_ret2
  exact ⟨ret_two F.out.symm B.out.symm, ((Gr.refl _).alloc _ _).trans g⟩
theorem told_46 (op : Int) (h1 : 46 ≤ op) (h2 : op ≤ 56) : Told op := by
  intro w T
  have F : Hid (Dc.frm op = 8) := by
    show _ = _
    unfold Dc.frm
    repeat (first | rw [if_pos (by omega)] | rw [if_neg (by omega)])
  have B : Hid (Dc.tbits op = Dc.rowOf op op 47 [2]) := by
    show _ = _
    unfold Dc.tbits
    repeat (first | rw [if_pos (by omega)] | rw [if_neg (by omega)])
  have e1 : (op == 1) = false := by simp; omega
  have e2 : (op == 2) = false := by simp; omega
  have e3 : (op == 3) = false := by simp; omega
  have e4 : (op == 4) = false := by simp; omega
  have e57 : (op == 57) = false := by simp; omega
  have e58 : (op == 58) = false := by simp; omega
  have e59 : (op == 59) = false := by simp; omega
  go_enter Tryd.func75, Tryd.ntmps75
  go_wp2_with (first | (go_at_call 107; first | (refine (within_yes _ _ _ _ (by omega)).mono ?_; rintro e w' ⟨rfl, rfl⟩) | (refine (within_no _ _ _ _ (by omega)).mono ?_; rintro e w' ⟨rfl, rfl⟩)) | (go_at_call 106; refine (row_any _ _ _ _ [2] _ (T.of ((Gr.refl _).alloc _ _)) (cells_new _ [2] _) (by decide) (by omega) (by simp <;> omega) (by omega) (by omega) (by omega) (by omega) (by omega) (by decide)).mono ?_; rintro e w' ⟨rfl, g⟩))
  go_ret2
  exact ⟨ret_two F.out.symm B.out.symm, ((Gr.refl _).alloc _ _).trans g⟩
theorem told_57 : Told 57 := by
  intro w T
  go_enter Tryd.func75, Tryd.ntmps75
  go_wp2_with (first | (go_at_call 107; first | (refine (within_yes _ _ _ _ (by omega)).mono ?_; rintro e w' ⟨rfl, rfl⟩) | (refine (within_no _ _ _ _ (by omega)).mono ?_; rintro e w' ⟨rfl, rfl⟩)) | (go_at_call 106; refine (row_any 57 57 15 _ [0] _ (T.of ((Gr.refl _).alloc _ _)) (cells_new _ [0] _) (by decide) (by omega) (by simp <;> omega) (by omega) (by omega) (by omega) (by omega) (by omega) (by decide)).mono ?_; rintro e w' ⟨rfl, g⟩))
  go_ret2
  exact ⟨rfl, ((Gr.refl _).alloc _ _).trans g⟩
theorem told_1 : Told 1 := by
  intro w T
  go_enter Tryd.func75, Tryd.ntmps75
  go_wp2_with fail
  go_ret2
  exact ⟨rfl, Gr.refl _⟩
theorem told_2 : Told 2 := by
  intro w T
  go_enter Tryd.func75, Tryd.ntmps75
  go_wp2_with fail
  go_ret2
  exact ⟨rfl, Gr.refl _⟩
theorem told_3 : Told 3 := by
  intro w T
  go_enter Tryd.func75, Tryd.ntmps75
  go_wp2_with fail
  go_ret2
  exact ⟨rfl, Gr.refl _⟩
theorem told_58 : Told 58 := by
  intro w T
  go_enter Tryd.func75, Tryd.ntmps75
  go_wp2_with (go_at_call 107; (refine (within_no _ _ _ _ (by omega)).mono ?_; rintro e w' ⟨rfl, rfl⟩))
  go_ret2
  exact ⟨rfl, Gr.refl _⟩
theorem told_59 : Told 59 := by
  intro w T
  go_enter Tryd.func75, Tryd.ntmps75
  go_wp2_with (go_at_call 107; (refine (within_no _ _ _ _ (by omega)).mono ?_; rintro e w' ⟨rfl, rfl⟩))
  go_ret2
  exact ⟨rfl, Gr.refl _⟩
theorem told_none (op : Int) (h : op < 1 ∨ 59 < op) : Told op := by
  intro w T
  have F : Hid (Dc.frm op = 0) := by
    show _ = _
    unfold Dc.frm
    repeat (first | rw [if_pos (by omega)] | rw [if_neg (by omega)])
  have B : Hid (Dc.tbits op = 0) := by
    show _ = _
    unfold Dc.tbits
    repeat (first | rw [if_neg (by omega)])
  have e1 : (op == 1) = false := by simp; omega
  have e2 : (op == 2) = false := by simp; omega
  have e3 : (op == 3) = false := by simp; omega
  have e4 : (op == 4) = false := by simp; omega
  have e57 : (op == 57) = false := by simp; omega
  have e58 : (op == 58) = false := by simp; omega
  have e59 : (op == 59) = false := by simp; omega
  go_enter Tryd.func75, Tryd.ntmps75
  go_wp2_with (go_at_call 107; (refine (within_no _ _ _ _ (by omega)).mono ?_; rintro e w' ⟨rfl, rfl⟩))
  go_ret2
  exact ⟨ret_two F.out.symm B.out.symm, Gr.refl _⟩
theorem told_any (op : Int) : Told op := by
  by_cases h0 : op < 1 ∨ 59 < op
  · exact told_none op h0
  by_cases e1 : op = 1
  · subst e1; exact told_1
  by_cases e2 : op = 2
  · subst e2; exact told_2
  by_cases e3 : op = 3
  · subst e3; exact told_3
  by_cases e58 : op = 58
  · subst e58; exact told_58
  by_cases e59 : op = 59
  · subst e59; exact told_59
  by_cases h4 : op ≤ 4
  · exact told_4 op (by omega) h4
  by_cases h5 : op ≤ 10
  · exact told_5 op (by omega) h5
  by_cases h11 : op ≤ 15
  · exact told_11 op (by omega) h11
  by_cases h16 : op ≤ 18
  · exact told_16 op (by omega) h16
  by_cases h19 : op ≤ 24
  · exact told_19 op (by omega) h19
  by_cases h25 : op ≤ 27
  · exact told_25 op (by omega) h25
  by_cases h28 : op ≤ 37
  · exact told_28 op (by omega) h28
  by_cases h38 : op ≤ 45
  · exact told_38 op (by omega) h38
  by_cases h46 : op ≤ 56
  · exact told_46 op (by omega) h46
  obtain rfl : op = 57 := by omega
  exact told_57
theorem span_any (a : Int) (w : World) (h0 : 0 ≤ a) (h1 : a < 4294967296) :
    Calls Tryd.prog 77 #[.int .u32 a] w fun e w' => e = .returned (.tuple #[.int .i64 (Dc.sp1 (a % 128)), .int .i64 (Dc.sp2 (a % 128))]) ∧ w' = w := by
  have B : bits .and .u32 a 127 = a % 128 := (bits_and_u32 a 127 h0 h1 (by omega) (by omega)).trans (Dc.band1 h0 h1)
  by_cases e55 : a % 128 = 55
  · have b55 : (a % 128 == 55) = true := by simp [e55]
    have S1 : Hid (Dc.sp1 (a % 128) = 1) := by show _ = _; rw [e55]; rfl
    have S2 : Hid (Dc.sp2 (a % 128) = 1) := by show _ = _; rw [e55]; rfl
    clear e55
    go_enter Tryd.func77, Tryd.ntmps77
    go_wp2
    go_ret2
    rw [S1.out, S2.out]
    exact ⟨rfl, rfl⟩
  have b55 : (a % 128 == 55) = false := by simp [e55]
  by_cases e23 : a % 128 = 23
  · have b23 : (a % 128 == 23) = true := by simp [e23]
    have S1 : Hid (Dc.sp1 (a % 128) = 2) := by show _ = _; rw [e23]; rfl
    have S2 : Hid (Dc.sp2 (a % 128) = 2) := by show _ = _; rw [e23]; rfl
    clear e23
    go_enter Tryd.func77, Tryd.ntmps77
    go_wp2
    go_ret2
    rw [S1.out, S2.out]
    exact ⟨rfl, rfl⟩
  have b23 : (a % 128 == 23) = false := by simp [e23]
  by_cases e111 : a % 128 = 111
  · have b111 : (a % 128 == 111) = true := by simp [e111]
    have S1 : Hid (Dc.sp1 (a % 128) = 3) := by show _ = _; rw [e111]; rfl
    have S2 : Hid (Dc.sp2 (a % 128) = 3) := by show _ = _; rw [e111]; rfl
    clear e111
    go_enter Tryd.func77, Tryd.ntmps77
    go_wp2
    go_ret2
    rw [S1.out, S2.out]
    exact ⟨rfl, rfl⟩
  have b111 : (a % 128 == 111) = false := by simp [e111]
  by_cases e103 : a % 128 = 103
  · have b103 : (a % 128 == 103) = true := by simp [e103]
    have S1 : Hid (Dc.sp1 (a % 128) = 4) := by show _ = _; rw [e103]; rfl
    have S2 : Hid (Dc.sp2 (a % 128) = 4) := by show _ = _; rw [e103]; rfl
    clear e103
    go_enter Tryd.func77, Tryd.ntmps77
    go_wp2
    go_ret2
    rw [S1.out, S2.out]
    exact ⟨rfl, rfl⟩
  have b103 : (a % 128 == 103) = false := by simp [e103]
  by_cases e99 : a % 128 = 99
  · have b99 : (a % 128 == 99) = true := by simp [e99]
    have S1 : Hid (Dc.sp1 (a % 128) = 5) := by show _ = _; rw [e99]; rfl
    have S2 : Hid (Dc.sp2 (a % 128) = 10) := by show _ = _; rw [e99]; rfl
    clear e99
    go_enter Tryd.func77, Tryd.ntmps77
    go_wp2
    go_ret2
    rw [S1.out, S2.out]
    exact ⟨rfl, rfl⟩
  have b99 : (a % 128 == 99) = false := by simp [e99]
  by_cases e3 : a % 128 = 3
  · have b3 : (a % 128 == 3) = true := by simp [e3]
    have S1 : Hid (Dc.sp1 (a % 128) = 11) := by show _ = _; rw [e3]; rfl
    have S2 : Hid (Dc.sp2 (a % 128) = 15) := by show _ = _; rw [e3]; rfl
    clear e3
    go_enter Tryd.func77, Tryd.ntmps77
    go_wp2
    go_ret2
    rw [S1.out, S2.out]
    exact ⟨rfl, rfl⟩
  have b3 : (a % 128 == 3) = false := by simp [e3]
  by_cases e35 : a % 128 = 35
  · have b35 : (a % 128 == 35) = true := by simp [e35]
    have S1 : Hid (Dc.sp1 (a % 128) = 16) := by show _ = _; rw [e35]; rfl
    have S2 : Hid (Dc.sp2 (a % 128) = 18) := by show _ = _; rw [e35]; rfl
    clear e35
    go_enter Tryd.func77, Tryd.ntmps77
    go_wp2
    go_ret2
    rw [S1.out, S2.out]
    exact ⟨rfl, rfl⟩
  have b35 : (a % 128 == 35) = false := by simp [e35]
  by_cases e19 : a % 128 = 19
  · have b19 : (a % 128 == 19) = true := by simp [e19]
    have S1 : Hid (Dc.sp1 (a % 128) = 19) := by show _ = _; rw [e19]; rfl
    have S2 : Hid (Dc.sp2 (a % 128) = 27) := by show _ = _; rw [e19]; rfl
    clear e19
    go_enter Tryd.func77, Tryd.ntmps77
    go_wp2
    go_ret2
    rw [S1.out, S2.out]
    exact ⟨rfl, rfl⟩
  have b19 : (a % 128 == 19) = false := by simp [e19]
  by_cases e51 : a % 128 = 51
  · have b51 : (a % 128 == 51) = true := by simp [e51]
    have S1 : Hid (Dc.sp1 (a % 128) = 28) := by show _ = _; rw [e51]; rfl
    have S2 : Hid (Dc.sp2 (a % 128) = 45) := by show _ = _; rw [e51]; rfl
    clear e51
    go_enter Tryd.func77, Tryd.ntmps77
    go_wp2
    go_ret2
    rw [S1.out, S2.out]
    exact ⟨rfl, rfl⟩
  have b51 : (a % 128 == 51) = false := by simp [e51]
  by_cases e47 : a % 128 = 47
  · have b47 : (a % 128 == 47) = true := by simp [e47]
    have S1 : Hid (Dc.sp1 (a % 128) = 46) := by show _ = _; rw [e47]; rfl
    have S2 : Hid (Dc.sp2 (a % 128) = 56) := by show _ = _; rw [e47]; rfl
    clear e47
    go_enter Tryd.func77, Tryd.ntmps77
    go_wp2
    go_ret2
    rw [S1.out, S2.out]
    exact ⟨rfl, rfl⟩
  have b47 : (a % 128 == 47) = false := by simp [e47]
  by_cases e15 : a % 128 = 15
  · have b15 : (a % 128 == 15) = true := by simp [e15]
    have S1 : Hid (Dc.sp1 (a % 128) = 57) := by show _ = _; rw [e15]; rfl
    have S2 : Hid (Dc.sp2 (a % 128) = 57) := by show _ = _; rw [e15]; rfl
    clear e15
    go_enter Tryd.func77, Tryd.ntmps77
    go_wp2
    go_ret2
    rw [S1.out, S2.out]
    exact ⟨rfl, rfl⟩
  have b15 : (a % 128 == 15) = false := by simp [e15]
  by_cases e115 : a % 128 = 115
  · have b115 : (a % 128 == 115) = true := by simp [e115]
    have S1 : Hid (Dc.sp1 (a % 128) = 58) := by show _ = _; rw [e115]; rfl
    have S2 : Hid (Dc.sp2 (a % 128) = 59) := by show _ = _; rw [e115]; rfl
    clear e115
    go_enter Tryd.func77, Tryd.ntmps77
    go_wp2
    go_ret2
    rw [S1.out, S2.out]
    exact ⟨rfl, rfl⟩
  have b115 : (a % 128 == 115) = false := by simp [e115]
  have S1 : Hid (Dc.sp1 (a % 128) = 0) := by show _ = _; unfold Dc.sp1; simp [e55, e23, e111, e103, e99, e3, e35, e19, e51, e47, e15, e115]
  have S2 : Hid (Dc.sp2 (a % 128) = -1) := by show _ = _; unfold Dc.sp2; simp [e55, e23, e111, e103, e99, e3, e35, e19, e51, e47, e15, e115]
  clear e55 e23 e111 e103 e99 e3 e35 e19 e51 e47 e15 e115
  go_enter Tryd.func77, Tryd.ntmps77
  go_wp2
  go_ret2
  rw [S1.out, S2.out]
  exact ⟨rfl, rfl⟩
end Go.Proofs.YtdiofidmlgliiaaDoor.Dw
