/-
  What is proved: for every room, every blocks that are put in a cache of it, each behind some bytes that are stale, the cache has no more than the room, no two of one place, and what is found at a place is the last one that was put there. Conditions: none.
-/
import Derived.Test.YteipplmmchaboabKeW2
import Derived.Test.YteipplmmchaboabKz
import Derived.ProofKit
import Derived.SizedLaws
import Derived.OpenShut
namespace Go.Proofs.Yteipplmmchaboab.cacheKeeps
open Go.ChangeShapes Go.WideShapes Go.ChangeAt Go.RowKit Mm Ts Hc Kc
set_option linter.unusedVariables false
set_option linter.unusedSimpArgs false

theorem laidOut : laidOutB Try.prog = true := by kernel_rfl
theorem own : ownKnob Try.prog.godebug = none := by kernel_rfl
/-- What package cache answers. -/
theorem ck (room : Int) : Ck room := by
  refine ⟨fun W => New_any W room, fun W L a n cp pu sl b va vn vc B hl hb h1 h2 => ?_, fun W L a n cp pu sl b va vn vc B hl hb hv => ?_, fun W L a n cp pu sl f t B hl hf ht => ?_, fun W L a n cp pu sl pc B hl => ?_⟩
  · have hn := B.len
    refine (PutGood cp B (by omega) room pu sl hb h1 h2).mono ?_
    rintro e w' ⟨a', m', c', rfl, X, G⟩
    exact ⟨a', m', c', _, rfl, X, G⟩
  · have hvn : vn * 40 ≤ 140737488351232 := by
      obtain ⟨_, _, sa, sn, sc, e, _, h⟩ := hb
      injection e with _ e2 _
      rw [e2]; exact h
    exact (PutBad W room pu sl b.pc a va n cp vn vc hv (by omega)).mono fun e w' h => ⟨none, 0, h⟩
  · have hn := B.len
    refine (StaleW_any cp B (by omega) room pu sl hf ht).mono ?_
    rintro e w' ⟨a', m', c', rfl, X, G⟩
    exact ⟨a', m', c', _, rfl, X, G⟩
  · have hn := B.len
    exact Find_any cp B (by omega) room pu sl pc
set_option maxRecDepth 100000 in
theorem lifted (os : Os) (started : os.Started) (H : Type) (enc : TypeId × Value → H) :
    ReturnsInHanded {} Try.checked os 4 .any (Rows.cacheKeepsSpec.pre6 enc Try.prog Try.f4 Rows.cacheKeepsRow.domain false) (Rows.cacheKeepsSpec.post enc Try.prog Try.f4 false true false false) := by
  refine returnsInHanded_of_change_sized (C := Try.checked) own started (by kernel_rfl) Try.func4
    (ChangeSpec.witness6 (enc := enc) (C := Try.checked) false ⟨#[], #[.int .i64 0, .slice none 0 0, .slice none 0 0], []⟩ 8 (by kernel_rfl) (by kernel_rfl) (by kernel_rfl) (by kernel_rfl)) ?_
  intro W base args ds gs before hval0 hW _ hsz0 _
  have hsz : (DataW.weightsEach Try.prog (Try.f4.params.toList ++ Rows.cacheKeepsSpec.plain.varTypes Try.prog) (ds ++ gs)).all (· ≤ reachBytes) = true := hsz0
  clear hsz0
  have hval : ∀ (j : Nat) t v, Try.f4.params[j]? = some t → args[j]? = some v → Value.okWide Try.prog W .any base t v := hval0
  have hW' := hW
  obtain ⟨p, q, hA0, hV, rfl, _, _⟩ := hW
  have hA : DataW.TrodAll enc Try.prog W 0 (fun _ => true) true Try.f4.params.toList args.toList ds p := hA0
  rw [Try.params4] at hA hval hsz
  obtain ⟨v0, vs0, d0, ds0, p0, q0, hargs, rfl, rfl, h0, r0⟩ := trodAll_cons hA
  obtain ⟨v1, vs1, d1, ds1, p1, q1, rfl, rfl, rfl, h1, r1⟩ := trodAll_cons r0
  obtain ⟨v2, vs2, d2, ds2, p2, q2, rfl, rfl, rfl, h2, r2⟩ := trodAll_cons r1
  obtain ⟨rfl, rfl, rfl⟩ := trodAll_nil r2
  obtain rfl : args = #[v0, v1, v2] := by cases args; simp_all
  obtain ⟨rfl, rfl⟩ := trodVars_none hV
  obtain ⟨rm, rfl, rfl, rfl, w0⟩ := open_int Try.underlying3 (hval 0 3 v0 rfl rfl) h0
  obtain ⟨a1, n1, c1, rfl⟩ := okWide_slice Try.underlying22 (hval 1 22 v1 rfl rfl)
  obtain ⟨a2, n2, c2, rfl⟩ := okWide_slice Try.underlying43 (hval 2 43 v2 rfl rfl)
  have h1k := h1
  have h2k := h2
  obtain ⟨fa, hfa⟩ := h1
  obtain ⟨fb, hfb⟩ := h2
  obtain ⟨ls, B, _, hln⟩ := open_blocks hfa (fun z hz => by simpa using List.all_eq_true.1 hsz z (DataW.weights_mem_each (P := Try.prog) (j := 1) (t := 22) (d := d1) rfl rfl z hz))
  obtain ⟨rs, R, hd⟩ := open_rngs hfb
  have hn2 : n2 ≤ 140737488351232 := by
    rcases hd with ⟨_, h⟩ | ⟨el, sp, h, hz⟩
    · rw [h]; decide
    · have := sized_slice hsz (j := 2) (t := 43) (e := 30) rfl (by rw [h]; rfl) Try.underlying43
      rw [byRng] at this
      simp only [hz, reachBytes] at this
      omega
  clear hA0 hval0
  simp only [List.append_nil] at hW'
  have hlt1 : ∀ x ∈ p1, x.block < W.heap.size := fun x hx => by
    have := hW'.lt x (by simp [hx])
    simpa using this
  have hlt2 : ∀ x ∈ p2, x.block < W.heap.size := fun x hx => by
    have := hW'.lt x (by simp [hx])
    simpa using this
  refine (ckeeps_any (lc := c1) (sc := c2) B hln R hn2 (ck rm)).mono fun e W' ⟨he, hg⟩ => ?_
  subst he
  refine ⟨_, rfl, _, _, _, [], _, [], hW', (trodAll_cons_mk (shut_bool Try.underlying4 _) trodAll_mk0), (trodAll_cons_mk (shut_int Try.underlying3 w0) (trodAll_cons_mk (Below.trod laidOut (by kernel_rfl) (of_decide_eq_true (by kernel_rfl)) h1k hg hlt1) (trodAll_cons_mk (Below.trod laidOut (by kernel_rfl) (of_decide_eq_true (by kernel_rfl)) h2k hg hlt2) trodAll_mk0))), rfl, Below.frame hg _, fun h => by cases h⟩

theorem over : Rows.cacheKeepsRow.holds Try.pinned (OpenSpec.ofChange Rows.cacheKeepsSpec) :=
  OpenClaim.holds_of_wide 4 Try.f4 rfl rfl rfl rfl rfl rfl rfl ⟨rfl, rfl, rfl, rfl, rfl⟩ rfl rfl rfl rfl rfl (by kernel_rfl) Try.func4 (by kernel_rfl)
    (of_decide_eq_true (by kernel_rfl)) (by unfold Func.isWrapper; first | (rw [if_pos (by decide +kernel)]; kernel_rfl) | (rw [if_neg (by decide +kernel)]; exact ⟨rfl, rfl⟩))
    (fun os started H enc _ => lifted os started H enc)

/-- The statement. -/
theorem proved : Rows.CacheKeepsSaid :=
  over
#print axioms proved
end Go.Proofs.Yteipplmmchaboab.cacheKeeps
