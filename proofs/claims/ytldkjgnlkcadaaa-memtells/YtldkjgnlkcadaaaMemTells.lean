/-
  What is proved: for every bytes, op, place and word the program's Load and Store answer as the document's do. Conditions: none.
-/
import Derived.Test.YtldkjgnlkcadaaaMemArgs
import Derived.Test.YtldkjgnlkcadaaaMemWalks
import Derived.Test.YtldkjgnlkcadaaaRef3Walks
import Derived.ProofKit
import Derived.SizedLaws
import Derived.OpenShut
namespace Go.Proofs.Ytldkjgnlkcadaaa.memTells
open Go.ChangeShapes Go.WideShapes Go.ChangeAt Go.RowKit Mm
set_option linter.unusedVariables false
set_option linter.unusedSimpArgs false

set_option maxHeartbeats 1000000 in
theorem walk {ao : Option Addr} {n : Nat} (cap : Nat) {l : List UInt8} (op a x : Int) {w : World} (M : Mem w ao n l) (hn : n ≤ 140737488351232) (h0 : 0 ≤ a) (h1 : a < 4294967296) (hx0 : 0 ≤ x) (hx1 : x < 4294967296) :
    Calls Try.prog 6 #[.slice ao n cap, .int .i64 op, .int .u32 a, .int .u32 x] w fun e w' => e = .returned (.bool true) ∧ Gr w w' := by
  have L1 : Hid (Calls Try.prog 14 #[.slice ao n cap, .int .i64 op, .int .u32 a] w fun e w' => e = .returned (.tuple #[.int .u32 (ldV l op a), .bool (ldOk l op a)]) ∧ w' = w) := Mm.Load_any cap op a M hn h0 h1
  have S1 : Hid (Calls Try.prog 15 #[.slice ao n cap, .int .i64 op, .int .u32 a, .int .u32 x] w fun e w' => ∃ ao' n' cap', e = .returned (.tuple #[.slice ao' n' cap', .bool (stOk l op a)]) ∧ Mem w' ao' n' (stL l op a x) ∧ Gr w w') := Mm.Store_any cap op a x M hn h0 h1 hx0 hx1
  have L2 : Hid (∀ w' : World, Gr w w' → Calls Try.prog 16 #[.slice ao n cap, .int .i64 op, .int .u32 a] w' fun e w2 => e = .returned (.tuple #[.int .u32 (ldV l op a), .bool (ldOk l op a)]) ∧ w2 = w') := fun w' G => Mr.Load_any cap op a (M.of G) hn h0 h1
  have S2 : Hid (∀ w' : World, Gr w w' → Calls Try.prog 17 #[.slice ao n cap, .int .i64 op, .int .u32 a, .int .u32 x] w' fun e w2 => ∃ ao' n' cap', e = .returned (.tuple #[.slice ao' n' cap', .bool (stOk l op a)]) ∧ Mem w2 ao' n' (stL l op a x) ∧ Gr w' w2) := fun w' G => Mr.Store_any cap op a x (M.of G) hn h0 h1 hx0 hx1
  generalize ldV l op a = X at *
  generalize ldOk l op a = B at *
  generalize stOk l op a = C at *
  generalize stL l op a x = k at *
  clear M
  go_enter Try.func6, Try.ntmps6
  go_wp2_with fail
  refine L1.out.mono ?_
  rintro e w' ⟨rfl, rfl⟩
  clear L1
  go_wp2_with fail
  refine S1.out.mono ?_
  rintro e w1 ⟨a1, n1, c1, rfl, M1, G1⟩
  have HM1 : Hid (Mem w1 a1 n1 k) := M1
  have HG1 : Hid (Gr w' w1) := G1
  clear S1 M1 G1
  go_wp2_with fail
  refine (L2.out _ HG1.out).mono ?_
  rintro e w2 ⟨rfl, rfl⟩
  clear L2
  go_wp2_with fail
  refine (S2.out _ HG1.out).mono ?_
  rintro e w3 ⟨a2, n2, c2, rfl, M2, G2⟩
  have HM2 : Hid (Mem w3 a2 n2 k) := M2
  have HM3 : Hid (Mem w3 a1 n1 k) := HM1.out.of G2
  have HG2 : Hid (Gr w' w3) := HG1.out.trans G2
  clear S2 M2 G2 HM1 HG1
  go_wp2_with fail
  refine (Mr.Bytes_any _ _ HM3.out HM2.out).mono ?_
  rintro e w4 ⟨rfl, rfl⟩
  have HE : decide (k = k) = true := by simp
  go_wp2_with fail
  go_ret
  exact ⟨rfl, HG2.out⟩

set_option maxRecDepth 100000 in
theorem lifted (os : Os) (started : os.Started) (H : Type) (enc : TypeId × Value → H) :
    ReturnsInHanded {} Try.checked os 6 .any (Rows.memTellsSpec.pre6 enc Try.prog Try.f6 Rows.memTellsRow.domain false) (Rows.memTellsSpec.post enc Try.prog Try.f6 false true false false) := by
  refine returnsInHanded_of_change_sized (C := Try.checked) own started (by kernel_rfl) Try.func6
    (ChangeSpec.witness6 (enc := enc) (C := Try.checked) false ⟨#[], #[.slice none 0 0, .int .i64 0, .int .u32 0, .int .u32 0], []⟩ 8 (by kernel_rfl) (by kernel_rfl) (by kernel_rfl) (by kernel_rfl)) ?_
  intro W base args ds gs before hval0 hW _ hsz0 _
  have hsz : (DataW.weightsEach Try.prog (Try.f6.params.toList ++ Rows.memTellsSpec.plain.varTypes Try.prog) (ds ++ gs)).all (· ≤ reachBytes) = true := hsz0
  clear hsz0
  have hval : ∀ (j : Nat) t v, Try.f6.params[j]? = some t → args[j]? = some v → Value.okWide Try.prog W .any base t v := hval0
  have hW' := hW
  obtain ⟨p, q, hA0, hV, rfl, _, _⟩ := hW
  have hA : DataW.TrodAll enc Try.prog W 0 (fun _ => true) true Try.f6.params.toList args.toList ds p := hA0
  rw [Try.params6] at hA hval hsz
  obtain ⟨v0, vs0, d0, ds0, p0, q0, hargs, rfl, rfl, h0, r0⟩ := trodAll_cons hA
  obtain ⟨v1, vs1, d1, ds1, p1, q1, rfl, rfl, rfl, h1, r1⟩ := trodAll_cons r0
  obtain ⟨v2, vs2, d2, ds2, p2, q2, rfl, rfl, rfl, h2, r2⟩ := trodAll_cons r1
  obtain ⟨v3, vs3, d3, ds3, p3, q3, rfl, rfl, rfl, h3, r3⟩ := trodAll_cons r2
  obtain ⟨rfl, rfl, rfl⟩ := trodAll_nil r3
  obtain rfl : args = #[v0, v1, v2, v3] := by cases args; simp_all
  obtain ⟨rfl, rfl⟩ := trodVars_none hV
  obtain ⟨a0, la, ca, rfl⟩ := okWide_slice Try.underlying27 (hval 0 27 v0 rfl rfl)
  obtain ⟨a1, rfl, rfl, rfl, w1⟩ := open_int Try.underlying3 (hval 1 3 v1 rfl rfl) h1
  obtain ⟨a2, rfl, rfl, rfl, w2⟩ := open_int Try.underlying22 (hval 2 22 v2 rfl rfl) h2
  obtain ⟨a3, rfl, rfl, rfl, w3⟩ := open_int Try.underlying22 (hval 3 22 v3 rfl rfl) h3
  have h0k := h0
  obtain ⟨fa, hfa⟩ := h0
  clear hA0 hval0
  simp only [List.append_nil] at hW'
  have hlt : ∀ x ∈ p0, x.block < W.heap.size := fun x hx => by
    have := hW'.lt x (by simp [hx])
    simpa using this
  obtain ⟨l, M, hd⟩ := open_mem hfa
  have hn : la ≤ 140737488351232 := by
    rcases hd with ⟨_, h⟩ | ⟨zs, sp, h, hz⟩
    · rw [h]; decide
    · have := sized_slice hsz (j := 0) (t := 27) (e := 5) rfl (by rw [h]; rfl) Try.underlying27
      rw [bytes5] at this
      simp only [lits, List.length_map, hz, reachBytes] at this
      omega
  have hb2 : 0 ≤ a2 ∧ a2 ≤ 4294967295 := by
    simpa [Lit.wf, IntKind.min, IntKind.max, IntKind.signed, IntKind.bits] using w2
  have hb3 : 0 ≤ a3 ∧ a3 ≤ 4294967295 := by
    simpa [Lit.wf, IntKind.min, IntKind.max, IntKind.signed, IntKind.bits] using w3
  refine (walk ca a1 a2 a3 M hn hb2.1 (by omega) hb3.1 (by omega)).mono fun e W' ⟨he, hg⟩ => ?_
  subst he
  refine ⟨_, rfl, _, _, _, [], _, [], hW', (trodAll_cons_mk (shut_bool Try.underlying4 _) trodAll_mk0), (trodAll_cons_mk (Below.trod laidOut (by kernel_rfl) (of_decide_eq_true (by kernel_rfl)) h0k hg hlt) (trodAll_cons_mk (shut_int Try.underlying3 w1) (trodAll_cons_mk (shut_int Try.underlying22 w2) (trodAll_cons_mk (shut_int Try.underlying22 w3) trodAll_mk0)))), rfl, Below.frame hg _, fun h => by cases h⟩

theorem over : Rows.memTellsRow.holds Try.pinned (OpenSpec.ofChange Rows.memTellsSpec) :=
  OpenClaim.holds_of_wide 6 Try.f6 rfl rfl rfl rfl rfl rfl rfl ⟨rfl, rfl, rfl, rfl, rfl⟩ rfl rfl rfl rfl rfl (by kernel_rfl) Try.func6 (by kernel_rfl)
    (of_decide_eq_true (by kernel_rfl)) (by unfold Func.isWrapper; first | (rw [if_pos (by decide +kernel)]; kernel_rfl) | (rw [if_neg (by decide +kernel)]; exact ⟨rfl, rfl⟩))
    (fun os started H enc _ => lifted os started H enc)

/-- The statement. -/
theorem proved : Rows.MemTellsSaid :=
  over
#print axioms proved
end Go.Proofs.Ytldkjgnlkcadaaa.memTells
