/-
  What is proved: for every room, cache, block, place and range, package cache answers New, Find, Stale and Put as the document says. Conditions: none.
-/
import Derived.Test.YteipplmmchaboabKdW
import Derived.Test.YteipplmmchaboabKo
import Derived.Test.YteipplmmchaboabKz
import Derived.ProofKit
import Derived.SizedLaws
import Derived.OpenShut
namespace Go.Proofs.Yteipplmmchaboab.cacheDoes
open Go.ChangeShapes Go.WideShapes Go.ChangeAt Go.RowKit Mm Ts Hc Kc
set_option linter.unusedVariables false
set_option linter.unusedSimpArgs false

theorem laidOut : laidOutB Try.prog = true := by kernel_rfl
theorem own : ownKnob Try.prog.godebug = none := by kernel_rfl
theorem walk {w : World} (rm : Int) {room pu sl pc f t : Int} {ao : Option Addr} {n cap : Nat} {bs : List Bv} {b0 : Bv} {va : Option Addr} {vn vc : Nat} (B : Bs w ao n bs) (hn : n * 32 ≤ 140737488351232) (hs : -9223372036854775808 ≤ sl ∧ sl ≤ 9223372036854775807) (hf : 0 ≤ f ∧ f < 4294967296) (ht : 0 ≤ t ∧ t < 4294967296) (hb : Bc w b0 (.int .u32 b0.pc) (.slice va vn vc)) :
    Calls Try.prog 3 #[.int .i64 rm, .agg #[.int .i64 room, .slice ao n cap, .int .i64 pu, .int .i64 sl], .agg #[.int .u32 b0.pc, .slice va vn vc], .int .u32 pc, .agg #[.int .u32 f, .int .u32 t]] w fun e w' => e = .returned (.bool true) ∧ Gr w w' := by
  have hvn : vn * 40 ≤ 140737488351232 := by
    obtain ⟨_, _, sa, sn, sc, e, _, h⟩ := hb
    injection e with _ e2 _
    rw [e2]; exact h
  refine cdoes_any rm B hn hs hf ht hb (by omega) (fun W G => New_any W rm) (fun W G => Find_any cap (B.of G) hn room pu sl pc) (fun W G => ?_) (fun W G hv => ?_) (fun W G hv => ?_)
  · refine (StaleP_any cap (B.of G) hn room pu sl hs hf ht).mono ?_
    rintro e w' ⟨a, m, c, rfl, ⟨X, _⟩, G'⟩
    exact ⟨a, m, c, rfl, X, G'⟩
  · exact (PutBad W room pu sl b0.pc ao va n cap vn vc hv (by omega)).mono fun e w' h => ⟨none, 0, h⟩
  · refine (PutGood cap (B.of G) hn room pu sl (hb.of G) hv.1 hv.2).mono ?_
    rintro e w' ⟨a, m, c, rfl, ⟨X, _⟩, G'⟩
    exact ⟨a, m, c, rfl, X, G'⟩

set_option maxRecDepth 100000 in
theorem lifted (os : Os) (started : os.Started) (H : Type) (enc : TypeId × Value → H) :
    ReturnsInHanded {} Try.checked os 3 .any (Rows.cacheDoesSpec.pre6 enc Try.prog Try.f3 Rows.cacheDoesRow.domain false) (Rows.cacheDoesSpec.post enc Try.prog Try.f3 false true false false) := by
  refine returnsInHanded_of_change_sized (C := Try.checked) own started (by kernel_rfl) Try.func3
    (ChangeSpec.witness6 (enc := enc) (C := Try.checked) false ⟨#[], #[.int .i64 0, .agg #[.int .i64 0, .slice none 0 0, .int .i64 0, .int .i64 0], .agg #[.int .u32 0, .slice none 0 0], .int .u32 0, .agg #[.int .u32 0, .int .u32 0]], []⟩ 8 (by kernel_rfl) (by kernel_rfl) (by kernel_rfl) (by kernel_rfl)) ?_
  intro W base args ds gs before hval0 hW _ hsz0 _
  have hsz : (DataW.weightsEach Try.prog (Try.f3.params.toList ++ Rows.cacheDoesSpec.plain.varTypes Try.prog) (ds ++ gs)).all (· ≤ reachBytes) = true := hsz0
  clear hsz0
  have hval : ∀ (j : Nat) t v, Try.f3.params[j]? = some t → args[j]? = some v → Value.okWide Try.prog W .any base t v := hval0
  have hW' := hW
  obtain ⟨p, q, hA0, hV, rfl, _, _⟩ := hW
  have hA : DataW.TrodAll enc Try.prog W 0 (fun _ => true) true Try.f3.params.toList args.toList ds p := hA0
  rw [Try.params3] at hA hval hsz
  obtain ⟨v0, vs0, d0, ds0, p0, q0, hargs, rfl, rfl, h0, r0⟩ := trodAll_cons hA
  obtain ⟨v1, vs1, d1, ds1, p1, q1, rfl, rfl, rfl, h1, r1⟩ := trodAll_cons r0
  obtain ⟨v2, vs2, d2, ds2, p2, q2, rfl, rfl, rfl, h2, r2⟩ := trodAll_cons r1
  obtain ⟨v3, vs3, d3, ds3, p3, q3, rfl, rfl, rfl, h3, r3⟩ := trodAll_cons r2
  obtain ⟨v4, vs4, d4, ds4, p4, q4, rfl, rfl, rfl, h4, r4⟩ := trodAll_cons r3
  obtain ⟨rfl, rfl, rfl⟩ := trodAll_nil r4
  obtain rfl : args = #[v0, v1, v2, v3, v4] := by cases args; simp_all
  obtain ⟨rfl, rfl⟩ := trodVars_none hV
  obtain ⟨rm, rfl, rfl, rfl, w0⟩ := open_int Try.underlying3 (hval 0 3 v0 rfl rfl) h0
  obtain ⟨room, ao, n, cap, pu, sl, bs, rfl, hroom, hpu, hsl, B, _, hn⟩ := open_cache (k := 1) (hval 1 24 v1 rfl rfl) h1 hsz rfl rfl
  obtain ⟨b0, va, vn, vc, rfl, hb⟩ := open_blk (k := 2) (hval 2 28 v2 rfl rfl) h2 hsz rfl rfl
  obtain ⟨pc, rfl, rfl, rfl, w3⟩ := open_int Try.underlying25 (hval 3 25 v3 rfl rfl) h3
  obtain ⟨f, t, rfl, hf, ht⟩ := open_rng (hval 4 30 v4 rfl rfl) h4
  clear hA0 hval0
  simp only [List.append_nil] at hW'
  have hlt1 : ∀ x ∈ p1, x.block < W.heap.size := fun x hx => by
    have := hW'.lt x (by simp [hx])
    simpa using this
  have hlt2 : ∀ x ∈ p2, x.block < W.heap.size := fun x hx => by
    have := hW'.lt x (by simp [hx])
    simpa using this
  have hlt4 : ∀ x ∈ p4, x.block < W.heap.size := fun x hx => by
    have := hW'.lt x (by simp [hx])
    simpa using this
  refine (walk rm B hn hsl hf ht hb).mono fun e W' ⟨he, hg⟩ => ?_
  subst he
  refine ⟨_, rfl, _, _, _, [], _, [], hW', (trodAll_cons_mk (shut_bool Try.underlying4 _) trodAll_mk0), (trodAll_cons_mk (shut_int Try.underlying3 w0) (trodAll_cons_mk (Below.trod laidOut (by kernel_rfl) (of_decide_eq_true (by kernel_rfl)) h1 hg hlt1) (trodAll_cons_mk (Below.trod laidOut (by kernel_rfl) (of_decide_eq_true (by kernel_rfl)) h2 hg hlt2) (trodAll_cons_mk (shut_int Try.underlying25 w3) (trodAll_cons_mk (Below.trod laidOut (by kernel_rfl) (of_decide_eq_true (by kernel_rfl)) h4 hg hlt4) trodAll_mk0))))), rfl, Below.frame hg _, fun h => by cases h⟩

theorem over : Rows.cacheDoesRow.holds Try.pinned (OpenSpec.ofChange Rows.cacheDoesSpec) :=
  OpenClaim.holds_of_wide 3 Try.f3 rfl rfl rfl rfl rfl rfl rfl ⟨rfl, rfl, rfl, rfl, rfl⟩ rfl rfl rfl rfl rfl (by kernel_rfl) Try.func3 (by kernel_rfl)
    (of_decide_eq_true (by kernel_rfl)) (by unfold Func.isWrapper; first | (rw [if_pos (by decide +kernel)]; kernel_rfl) | (rw [if_neg (by decide +kernel)]; exact ⟨rfl, rfl⟩))
    (fun os started H enc _ => lifted os started H enc)

/-- The statement. -/
theorem proved : Rows.CacheDoesSaid :=
  over
#print axioms proved
end Go.Proofs.Yteipplmmchaboab.cacheDoes
