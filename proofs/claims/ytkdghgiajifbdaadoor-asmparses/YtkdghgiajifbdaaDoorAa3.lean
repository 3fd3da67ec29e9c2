/-
  What package asm takes out of a text: the bytes that stand between, parts, fields that are set; and strings.Cut at a blank.
-/
import Derived.Test.YtkdghgiajifbdaaDoorAa2
namespace Go.Proofs.YtkdghgiajifbdaaDoor.As
open Go.ChangeShapes Go.WideShapes Go.ChangeAt Go.RowKit Mm
set_option linter.unusedVariables false

variable {w w' : World}
set_option maxHeartbeats 1000000 in
theorem btw_any (x : Nat) (w : World) : Calls Tryd.prog 89 #[.int .i32 (x : Int)] w fun e w' => e = .returned (.bool (btw x)) ∧ w = w' := by
  unfold btw
  by_cases h1 : x = 44
  · subst h1
    go_enter Tryd.func89, Tryd.ntmps89
    go_wp2
    go_ret
    exact ⟨rfl, rfl⟩
  by_cases h2 : x = 40
  · subst h2
    go_enter Tryd.func89, Tryd.ntmps89
    go_wp2
    go_ret
    exact ⟨rfl, rfl⟩
  by_cases h3 : x = 41
  · subst h3
    go_enter Tryd.func89, Tryd.ntmps89
    go_wp2
    go_ret
    exact ⟨rfl, rfl⟩
  have e1 : ((x : Int) == 44) = false := by simp; omega
  have e2 : ((x : Int) == 40) = false := by simp; omega
  have e3 : ((x : Int) == 41) = false := by simp; omega
  have e : (x == 44 || x == 40 || x == 41) = false := by simp [h1, h2, h3]
  rw [e]
  clear h1 h2 h3 e
  go_enter Tryd.func89, Tryd.ntmps89
  go_wp2
  go_ret
  exact ⟨rfl, rfl⟩
theorem btw_gr (w : World) : PredGrows Tryd.prog 89 #[] btw w := fun W x _ _ => (btw_any x W).mono fun e w' ⟨he, hw⟩ => ⟨he, hw ▸ Below.refl _ _⟩
theorem btw_en : ∀ args w, (callFunc 89 args).run Tryd.prog w = .ok (.enter 89 args) w := enters_of Tryd.func89 (by kernel_rfl) rfl
theorem trim_any (s : ByteArray) (w : World) : Calls Tryd.prog 91 #[.string s, .func (.func 89) #[] #[]] w fun e w' => e = .returned (.string (Lib.trimLeftF btw s)) ∧ Gr w w' :=
  Tryd.strings_TrimLeftFunc_grows 89 #[] btw_en btw s w (btw_gr w)
theorem trim_le (s : ByteArray) : (Lib.trimLeftF btw s).size ≤ s.size := by
  unfold Lib.trimLeftF
  split
  · exact Nat.zero_le _
  · rw [Lib.size_eq, Lib.extract_data, Lib.size_eq s]; simp
theorem cut_le (s : ByteArray) : (cutB s).1.size ≤ s.size ∧ (cutB s).2.size ≤ s.size := by
  unfold cutB
  split
  · exact ⟨Nat.le_refl _, Nat.zero_le _⟩
  · constructor <;> (simp only; rw [Lib.size_eq, Lib.extract_data, Lib.size_eq s]; simp)
    omega
set_option maxHeartbeats 1000000 in
theorem cut_any (s : ByteArray) (w : World) : Calls Tryd.prog 90 #[.string s, .func (.func 89) #[] #[]] w fun e w' => e = .returned (.tuple #[.string (cutB s).1, .string (cutB s).2]) ∧ Gr w w' := by
  have H : Hid (Calls Tryd.prog 109 #[.string s, .func (.func 89) #[] #[]] w fun e w' => e = .returned (.int .i64 (Lib.idxFunc btw true s)) ∧ Gr w w') := Tryd.strings_IndexFunc_grows 89 #[] btw_en btw s w (btw_gr w)
  have hr := Lib.idxFunc_range btw true s
  unfold cutB
  generalize Lib.idxFunc btw true s = I at *
  rcases hr with rfl | ⟨h0, h1⟩
  · rw [if_pos rfl]
    go_enter Tryd.func90, Tryd.ntmps90
    go_wp2_with fail
    refine H.out.mono ?_
    rintro e w1 ⟨rfl, G1⟩
    go_wp2_with fail
    go_ret2
    exact ⟨rfl, G1⟩
  · rw [if_neg (by omega)]
    obtain ⟨i, rfl⟩ : ∃ i : Nat, I = (i : Int) := ⟨I.toNat, by omega⟩
    rw [show ((i : Nat) : Int).toNat = i by omega]
    go_enter Tryd.func90, Tryd.ntmps90
    go_wp2_with fail
    refine H.out.mono ?_
    rintro e w1 ⟨rfl, G1⟩
    have h2 : (i : Int) ≤ (s.size : Int) := by omega
    go_wp2_with fail
    go_quiet (fail)
    go_wp2_with fail
    go_ret2
    exact ⟨rfl, G1.drewN _⟩
theorem al2 (w : World) (a b : Obj) : ((w.alloc a).alloc b).heap[w.heap.size + 1]? = some b := by
  have := heap_alloc_new (w.alloc a) b
  simpa using this
set_option maxHeartbeats 1000000 in
/-- A field that is set. -/
theorem set_any {op rd a b m n : Int} (n0 : -2147483648 ≤ n) (n1 : n < 2147483648) {c : Nat} (hc : c = 100 ∨ c = 115 ∨ c = 116 ∨ c = 105 ∨ c = 117) (w : World) :
    Calls Tryd.prog 92 #[.agg #[.int .i64 op, .int .i64 rd, .int .i64 a, .int .i64 b, .int .i32 m], .int .i32 (c : Int), .int .i32 n] w fun e w' => e = .returned (insV (stB (op, rd, a, b, m) c n)) ∧ Gr w w' := by
  rcases hc with rfl | rfl | rfl | rfl | rfl
  all_goals
    go_enter Tryd.func92, Tryd.ntmps92
    go_wp2_with fail
    refine bodyPost_ret (v := .agg #[_, _, _, _, _]) (results_cell_row Tryd.results92 _ _ _ _ _ (0, 0) _ rfl (al2 _ _ _) Tryd.underlying23 rfl iIn) rfl ⟨by first | rfl | simp [insV, stB, IntKind.wrap_i32, wrap32], ((Gr.refl _).alloc _).alloc _⟩

/-! ### At a blank -/
theorem ib_in : ∀ (L : List Nat), (∀ c ∈ L, c < 256) → 32 ∈ L → Lib.indexByte (L.map UInt8.ofNat) 32 = ((hdB L).length : Int) ∧ rsB L = 32 :: (rsB L).tail
  | c :: L, hl, h => by
    unfold hdB rsB Lib.indexByte
    by_cases hc : c = 32
    · subst hc; simp
    · have hb : (UInt8.ofNat c == 32) = false := by
        rw [beq_eq_false_iff_ne]
        intro e
        have := congrArg UInt8.toNat e
        have := hl c (by simp)
        simp at *; omega
      have hn : (c != 32) = true := by simpa using hc
      have ih := ib_in L (fun x hx => hl x (by simp [hx])) (by simpa [Ne.symm hc] using h)
      unfold hdB rsB at ih
      simp only [List.map_cons, hb, List.takeWhile_cons, List.dropWhile_cons, hn, if_true, Bool.false_eq_true, if_false, List.length_cons]
      rw [ih.1]
      refine ⟨?_, ih.2⟩
      rw [if_neg (by simp)]
      omega
theorem ib_out : ∀ (L : List Nat), (∀ c ∈ L, c < 256) → 32 ∉ L → Lib.indexByte (L.map UInt8.ofNat) 32 = -1 ∧ hdB L = L ∧ rsB L = []
  | [], _, _ => ⟨rfl, rfl, rfl⟩
  | c :: L, hl, h => by
    have hc : c ≠ 32 := fun e => h (by simp [e])
    have hb : (UInt8.ofNat c == 32) = false := by
      rw [beq_eq_false_iff_ne]
      intro e
      have := congrArg UInt8.toNat e
      have := hl c (by simp)
      simp at *; omega
    have hn : (c != 32) = true := by simpa using hc
    have ih := ib_out L (fun x hx => hl x (by simp [hx])) (fun e => h (by simp [e]))
    unfold hdB rsB at *
    unfold Lib.indexByte
    simp only [List.map_cons, hb, List.takeWhile_cons, List.dropWhile_cons, hn, if_true, Bool.false_eq_true, if_false]
    rw [ih.1, ih.2.1, ih.2.2]
    simp
set_option maxHeartbeats 1000000 in
/-- A text up to its first blank, and behind it. -/
theorem Cut_any {L : List Nat} (hl : ∀ c ∈ L, c < 256) (hs : L.length ≤ 140737488355328) (w : World) :
    Calls Tryd.prog 50 #[.string (bs L), .string ⟨#[32]⟩] w fun e w' => (∃ t, e = .returned (.tuple #[.string (bs (hdB L)), .string (bs (rsB L).tail), .bool t])) ∧ Gr w w' := by
  have HX : Hid (Calls Tryd.prog 88 #[.string (bs L), .string ⟨#[32]⟩] w fun e w' => (∃ t, e = .returned (.tuple #[.string (bs (hdB L)), .string (bs (rsB L).tail), .bool t])) ∧ Gr w w') := by
    have H : Hid (Calls Tryd.prog 108 #[.string (bs L), .string ⟨#[32]⟩] w fun e w' => e = .returned (.int .i64 (Lib.indexByte (bs L).data.toList 32)) ∧ w = w') := (Tryd.stringslite_Index_one (bs L) 32 w).mono fun e w' ⟨he, hw⟩ => ⟨he, hw.symm⟩
    have hz := bs_size L
    rw [bs_list] at H
    by_cases h : 32 ∈ L
    · obtain ⟨e1, e2⟩ := ib_in L hl h
      rw [e1] at H
      have e0 : hdB L ++ 32 :: (rsB L).tail = L := by rw [← e2]; exact hd_rs L
      have e3 : (bs L).extract 0 (hdB L).length = bs (hdB L) := by
        rw [bs_take]
        refine congrArg bs ?_
        have := congrArg (List.take (hdB L).length) e0
        rw [List.take_left] at this
        exact this.symm
      have e4 : (bs L).extract ((hdB L).length + 1) (bs L).size = bs (rsB L).tail := by
        rw [bs_drop]
        refine congrArg bs ?_
        have := congrArg (List.drop ((hdB L).length + 1)) e0
        rw [← List.drop_drop, List.drop_left] at this
        exact this.symm
      have hle : (hdB L).length + 1 ≤ L.length := by
        have := congrArg List.length e0
        simp at this; omega
      rw [← e3, ← e4]
      clear e1 e2 e0 e3 e4 h hl
      generalize (hdB L).length = i at *
      generalize bs L = s at *
      have h0 : (0 : Int) ≤ (i : Int) := by omega
      have h1 : (i : Int) ≤ (s.size : Int) := by omega
      have h2 : (i : Int) + 1 ≤ (s.size : Int) := by omega
      have h3 : (i : Int) + 1 < 9223372036854775808 := by omega
      clear hz hle hs
      go_enter Tryd.func88, Tryd.ntmps88
      go_wp2_with fail
      refine H.out.mono ?_
      rintro e _ ⟨rfl, rfl⟩
      go_wp2_with fail
      go_quiet (fail)
      go_wp2_with fail
      go_ret3
      exact ⟨⟨true, rfl⟩, (Gr.refl _).drewN _⟩
    · obtain ⟨e1, e2, e3⟩ := ib_out L hl h
      rw [e1] at H
      rw [e2, e3]
      go_enter Tryd.func88, Tryd.ntmps88
      go_wp2_with fail
      refine H.out.mono ?_
      rintro e _ ⟨rfl, rfl⟩
      go_wp2_with fail
      go_ret3
      exact ⟨⟨false, rfl⟩, Gr.refl _⟩
  clear hl hs
  generalize bs (hdB L) = s1 at *
  generalize bs (rsB L).tail = s2 at *
  go_enter Tryd.func50, Tryd.ntmps50
  go_wp2_with fail
  refine HX.out.mono ?_
  rintro e w1 ⟨⟨t, rfl⟩, G1⟩
  go_wp2_with fail
  go_ret3
  exact ⟨⟨t, rfl⟩, G1⟩
end Go.Proofs.YtkdghgiajifbdaaDoor.As
