/-
  Go's own functions as package asm calls them: a number written (strconv.Itoa), a number read (strconv.ParseInt), a builder that is written on; and the tables that are read on the way ('Tas', 'Ers').
-/
import Derived.Test.YtkdghgiajifbdaaDoorShelf
import Derived.Test.YtkdghgiajifbdaaDoorAt
import Derived.Test.YtkdghgiajifbdaaDoorAw
import Derived.Test.YtkdghgiajifbdaaDoorTabs
import Derived.Lib.AppendIntMem
namespace Go.Proofs.YtkdghgiajifbdaaDoor.As
open Go.ChangeShapes Go.WideShapes Go.ChangeAt Go.RowKit Mm
set_option linter.unusedVariables false

variable {w w' : World}
/-- The tables hold what their initialisers lay. -/
structure Tas (w : World) : Prop where
  tb : Dw.Tab w
  pw : Lib.TabIs Tryd.prog w "internal/strconv.uint64pow10" .u64 Lib.pow10Tab
  nm : ∀ k, k < 59 → w.cell? ⟨2, k + 1, none⟩ = some (str (names.getD k []))
  ad : ∀ k : Nat, k < 4 → w.cell? ⟨3, k, none⟩ = some (str (sfx (k : Int)))
theorem cellG (G : Gr w w') {b o : Nat} {v : Value} (h : w.cell? ⟨b, o, none⟩ = some v) : w'.cell? ⟨b, o, none⟩ = some v := (G.cell _ (Dw.lt_of_cell h)).trans h
theorem Tas.of (h : Tas w) (G : Gr w w') : Tas w' :=
  ⟨⟨fun i v e => cellG G (h.tb.shapes i v e), fun i v e => cellG G (h.tb.uppers i v e)⟩, Lib.tabBelow_of_tabIs h.pw w' G, fun k hk => cellG G (h.nm k hk), fun k hk => cellG G (h.ad k hk)⟩
/-- What strconv's errors wrap is there. -/
structure Ers (w : World) : Prop where
  s : ∃ te pe, w.cell? ⟨6, 0, none⟩ = some (.iface te pe)
  r : ∃ te pe, w.cell? ⟨7, 0, none⟩ = some (.iface te pe)
theorem Ers.of (h : Ers w) (G : Gr w w') : Ers w' := by
  obtain ⟨⟨a, b, h1⟩, c, d, h2⟩ := h
  exact ⟨⟨a, b, cellG G h1⟩, c, d, cellG G h2⟩
theorem Itoa_any {n : Int} (h0 : -9223372036854775808 ≤ n) (h1 : n ≤ 9223372036854775807) (T : Tas w) : Calls Tryd.prog 107 #[.int .i64 n] w fun e w' => e = .returned (str (num n)) ∧ Gr w w' :=
  (Tryd.strconv_Itoa n h0 h1 w T.pw).mono fun e w' ⟨he, k, os, hw⟩ => ⟨by rw [he, itoa_num]; rfl, hw ▸ Lib.below_grow _ w (Nat.le_refl _) k os⟩
theorem str_len (L : List Nat) : (bs L).size = L.length := bs_size L
set_option maxHeartbeats 1000000 in
set_option maxRecDepth 100000 in
theorem register_any {n : Int} (h0 : -2147483648 ≤ n) (h1 : n < 2147483648) (T : Tas w) : Calls Tryd.prog 106 #[.int .i64 n] w fun e w' => e = .returned (str (rg n)) ∧ Gr w w' := by
  have HD : Hid (Calls Tryd.prog 107 #[.int .i64 n] w fun e w' => e = .returned (str (num n)) ∧ Gr w w') := Itoa_any (by omega) (by omega) T
  have hl : ¬ 9223372036854775807 < 1 + (num n).length := by have := num_len (n := n) (by omega) (by omega); omega
  unfold rg
  generalize num n = a at *
  clear T
  go_enter Tryd.func106, Tryd.ntmps106
  go_wp2_with fail
  refine HD.out.mono ?_
  rintro e w1 ⟨rfl, G1⟩
  unfold str
  go_wp2_with fail
  go_ret
  exact ⟨congrArg Ending.returned (str_app [120] _), G1⟩
theorem parse_gr {s : ByteArray} (hs : s.size ≤ 140737488355328) (E : Ers w) :
    Calls Tryd.prog 111 #[.string s, .int .i64 10, .int .i64 32] w fun e w' => (∃ x, e = .returned (.tuple #[.int .i64 (match Lib.parseIntB 32 s.data.toList with | .ok v => v | .range => Lib.intSat 32 s.data.toList | _ => 0), x])) ∧ Gr w w' := by
  obtain ⟨⟨a, b, h1⟩, c, d, h2⟩ := E
  rcases h : Lib.parseIntB 32 s.data.toList with v | _ | _
  · refine (Tryd.strconv_ParseInt_10_at32_ok s (by omega) v h w).mono ?_
    rintro e w' ⟨rfl, rfl | ⟨t, rfl⟩⟩
    · exact ⟨⟨_, rfl⟩, Gr.refl _⟩
    · exact ⟨⟨_, rfl⟩, Lib.bytesWorld_below _ _ _⟩
  · refine (Tryd.strconv_ParseInt_10_at32_bad s (by omega) (fun r e => by rw [h] at e; subst e; exact ⟨fun u q => (by cases q), fun q => (by cases q)⟩) _ w h1 (.inr ⟨a, b, rfl⟩)).mono ?_
    rintro e w' ⟨N, rfl, _, _, G⟩
    exact ⟨⟨_, rfl⟩, G⟩
  · refine (Tryd.strconv_ParseInt_10_at32_range s (by omega) h _ w h2 (.inr ⟨c, d, rfl⟩)).mono ?_
    rintro e w' ⟨N, rfl, _, _, G⟩
    exact ⟨⟨_, rfl⟩, G⟩
theorem pre_len (l p : List UInt8) : (Lib.trimPrefix l p).length ≤ l.length := by
  unfold Lib.trimPrefix; split
  · simp
  · exact Nat.le_refl _
set_option maxHeartbeats 1000000 in
set_option maxRecDepth 100000 in
/-- What is read of a part. -/
theorem number_any {s : ByteArray} (hs : s.size ≤ 140737488355328) (E : Ers w) : Calls Tryd.prog 93 #[.string s] w fun e w' => e = .returned (.int .i32 (nmB s)) ∧ Gr w w' := by
  have H1 : Hid (Calls Tryd.prog 112 #[.string s, .string ⟨#[120]⟩] w fun e w' => e = .returned (.string ⟨(Lib.trimPrefix s.data.toList [120]).toArray⟩) ∧ w = w') := (Tryd.strings_TrimPrefix s ⟨#[120]⟩ w).mono fun e w' ⟨he, hw⟩ => ⟨he, hw.symm⟩
  have H2 : Hid (Calls Tryd.prog 111 #[.string ⟨(Lib.trimPrefix s.data.toList [120]).toArray⟩, .int .i64 10, .int .i64 32] w fun e w' => (∃ x, e = .returned (.tuple #[.int .i64 (nmB s), x])) ∧ Gr w w') := by
    have := parse_gr (w := w) (s := ⟨(Lib.trimPrefix s.data.toList [120]).toArray⟩) (by
      have := pre_len s.data.toList [120]
      have e := Lib.size_eq s
      show (Lib.trimPrefix s.data.toList [120]).toArray.size ≤ _
      simp; omega) E
    exact this
  have hb := nmB_bd s
  have hw : IntKind.i32.wrap (nmB s) = nmB s := by rw [IntKind.wrap_i32]; omega
  generalize nmB s = n at *
  clear E hs
  go_enter Tryd.func93, Tryd.ntmps93
  go_wp2_with fail
  refine H1.out.mono ?_
  rintro e _ ⟨rfl, rfl⟩
  go_wp2_with fail
  refine H2.out.mono ?_
  rintro e w1 ⟨⟨x, rfl⟩, G1⟩
  go_wp2_with fail
  go_ret
  exact ⟨rfl, G1⟩
end Go.Proofs.YtkdghgiajifbdaaDoor.As
