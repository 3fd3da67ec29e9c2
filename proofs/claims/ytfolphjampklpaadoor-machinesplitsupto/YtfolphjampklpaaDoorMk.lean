/-
  Picks in rows; scripts cut in two, and one behind the other, as plain data.
-/
import Derived.Test.YtfolphjampklpaaDoorRef5b
namespace Go.Proofs.YtfolphjampklpaaDoor.Mc
open Go.ChangeShapes Go.WideShapes Go.ChangeAt Go.RowKit Mm Hh Hc
set_option linter.unusedVariables false
set_option linter.unusedSimpArgs false

def pC (ps : List (Int × Int)) : List Value := ps.flatMap fun p => [.int .i64 p.1, .int .i64 p.2]
theorem pC_app (a b : List (Int × Int)) : pC (a ++ b) = pC a ++ pC b := by simp [pC]
theorem pC_len (ps : List (Int × Int)) : (pC ps).length = ps.length * 2 := by
  induction ps with
  | nil => rfl
  | cons p r ih => simp only [pC, List.flatMap_cons, List.length_append, List.length_cons, List.length_nil] at ih ⊢; omega
theorem pC_one (ps : List (Int × Int)) : ∀ u ∈ pC ps, u.oneCell' = true := by
  intro u hu
  obtain ⟨p, _, hm⟩ := List.mem_flatMap.1 hu
  simp only [List.mem_cons, List.not_mem_nil, or_false] at hm
  rcases hm with rfl | rfl <;> rfl
theorem pC_get : ∀ (ps : List (Int × Int)) (i : Nat) (q : Int × Int), ps[i]? = some q → (pC ps)[i * 2]? = some (.int .i64 q.1) ∧ (pC ps)[i * 2 + 1]? = some (.int .i64 q.2)
  | [], i, q, h => by simp at h
  | p :: r, 0, q, h => by simp at h; subst h; exact ⟨rfl, rfl⟩
  | p :: r, i + 1, q, h => by
    have ih := pC_get r i q (by simpa using h)
    have e : pC (p :: r) = [.int .i64 p.1, .int .i64 p.2] ++ pC r := rfl
    rw [e, List.getElem?_append_right (by simp; omega), List.getElem?_append_right (by simp; omega)]
    simp only [List.length_cons, List.length_nil]
    rw [show (i + 1) * 2 - (0 + 1 + 1) = i * 2 by omega, show (i + 1) * 2 + 1 - (0 + 1 + 1) = i * 2 + 1 by omega]
    exact ih
/-- Picks that the program itself laid. -/
theorem Ps.own {w : World} {base n : Nat} {v : Value} {ps : List (Int × Int)} (h : w.ownsRow base 97 2 v n (pC ps)) (hl : ps.length = n) : ∃ ao cap, v = .slice ao n cap ∧ Ps w ao n ps := by
  rcases h.2 with ⟨rfl, rfl⟩ | ⟨g, cap, cur, rfl, hb, hg, _⟩
  · exact ⟨none, 0, rfl, hl, fun h => absurd h (by omega)⟩
  · refine ⟨_, cap, rfl, hl, fun _ => ⟨g, 0, rfl, (Array.getElem?_eq_some_iff.1 hg).1, fun i p hp => ?_⟩⟩
    have hi : i < n := by rw [← hl]; exact (List.getElem?_eq_some_iff.1 hp).1
    have c := pC_get ps i p hp
    rw [Nat.zero_add]
    exact ⟨(h.cellAt _ (by omega)).trans c.1, (h.cellAt _ (by omega)).trans c.2⟩
/-- Some of a script's picks, from one on. -/
theorem Ps.src {w : World} {b o n : Nat} {ps : List (Int × Int)} (h : Ps w (some ⟨b, o, none⟩) n ps) (i m c : Nat) (hi : i + m ≤ n) : Src w (.slice (some ⟨b, o + i * 2, none⟩) m c) m 2 (pC ((ps.drop i).take m)) := by
  have hl := h.len
  refine .inr ⟨_, c, rfl, by rw [pC_len, List.length_take, List.length_drop]; congr 1; omega, fun j u hj => ?_⟩
  have hjl : j < m * 2 := by have := (List.getElem?_eq_some_iff.1 hj).1; rw [pC_len, List.length_take, List.length_drop] at this; omega
  obtain ⟨b', o', e, _, hc⟩ := h.spot (by omega)
  obtain ⟨rfl, rfl⟩ : b = b' ∧ o = o' := by injection e with e; injection e with e1 e2; exact ⟨e1, e2⟩
  have hg : ((ps.drop i).take m)[j / 2]? = some (ps[i + j / 2]'(by omega)) := by
    rw [List.getElem?_take_of_lt (by omega), List.getElem?_drop, List.getElem?_eq_getElem]
  have c := pC_get _ _ _ hg
  have d := hc (i + j / 2) _ (List.getElem?_eq_getElem (by omega))
  rw [add_at]
  have h2 : j % 2 = 0 ∨ j % 2 = 1 := by omega
  rcases h2 with h2 | h2
  · rw [show j / 2 * 2 = j by omega] at c
    rw [c.1] at hj
    obtain rfl := Option.some.inj hj
    rw [show o + i * 2 + j = o + (i + j / 2) * 2 by omega]
    exact d.1
  · rw [show j / 2 * 2 + 1 = j by omega] at c
    rw [c.2] at hj
    obtain rfl := Option.some.inj hj
    rw [show o + i * 2 + j = o + (i + j / 2) * 2 + 1 by omega]
    exact d.2
theorem src_lit (w : World) (xs : List Value) (t m sz c : Nat) (h : xs.length = m * sz) : Src (w.alloc (.cells xs.toArray t)) (.slice (some ⟨w.heap.size, 0, none⟩) m c) m sz xs := by
  refine .inr ⟨_, c, rfl, h, fun j u hj => ?_⟩
  rw [add_at, Nat.zero_add, cell_of_row _ _ _ _ _ (0, 0) (heap_alloc_new w _)]
  simpa using hj
theorem infoP : (Tryd.prog.info? 97).map (fun i => (i.zero, i.size, i.bytes)) = some (some (.agg #[.int .i64 0, .int .i64 0]), 2, 16) := by kernel_rfl

/-- A pick cut in two. -/
def cut2 (ps : List (Int × Int)) (k : Nat) (h n r : Int) : List (Int × Int) := ps.take k ++ [(h, n), (h, r)] ++ ps.drop (k + 1)
theorem split_at {ps : List (Int × Int)} {k : Nat} {p : Int × Int} (h : ps[k]? = some p) : ps = ps.take k ++ [p] ++ ps.drop (k + 1) := by
  rw [← take_snoc h, List.take_append_drop]
theorem cut2_play {ps : List (Int × Int)} {k n r : Nat} {p : Int × Int} (h : ps[k]? = some p) (hs : p.2 = (n + r : Nat)) (s : Sh) : play s (nums (cut2 ps k p.1 n r)) = play s (nums ps) := by
  have e := congrArg nums (split_at h)
  rw [e]
  unfold cut2 nums
  simp only [List.map_append, List.map_cons, List.map_nil, play_app, play_cons]
  congr 1
  show runs (runs _ _ (Int.toNat n)) _ (Int.toNat r) = runs _ _ _
  rw [hs, Int.toNat_natCast, Int.toNat_natCast, Int.toNat_natCast, ← runs_add]
theorem cut2_len {ps : List (Int × Int)} {k : Nat} (hk : k < ps.length) (h n r : Int) : (cut2 ps k h n r).length = ps.length + 1 := by
  unfold cut2
  simp
  omega
theorem wrong_zero {m : List UInt8} {hs : List Hv} {ps qs : List (Int × Int)} (h : wrong m hs ps = 0) (hl : qs.length ≤ 300) (hq : ∀ p ∈ qs, 0 ≤ p.1 ∧ p.1 < hs.length ∧ 0 ≤ p.2 ∧ p.2 ≤ 400) : wrong m hs qs = 0 := by
  obtain ⟨h1, h2, h3, h4, h5, h6⟩ := wrong_ok h
  unfold wrong
  rw [if_neg (by omega), if_neg (by simpa using h4), if_neg (by omega), if_neg]
  simpa [pickOk] using hq
theorem cut2_wrong {m : List UInt8} {hs : List Hv} {ps : List (Int × Int)} (hw : wrong m hs ps = 0) (hl : ps.length < 300) {k n r : Nat} {p : Int × Int} (h : ps[k]? = some p) (hs2 : p.2 = (n + r : Nat)) : wrong m hs (cut2 ps k p.1 n r) = 0 := by
  obtain ⟨_, _, _, _, _, h6⟩ := wrong_ok hw
  have hp := h6 p (List.mem_of_getElem? h)
  have hk := (List.getElem?_eq_some_iff.1 h).1
  refine wrong_zero hw (by rw [cut2_len hk]; omega) fun q hq => ?_
  unfold cut2 at hq
  rcases List.mem_append.1 hq with h1 | h1
  · rcases List.mem_append.1 h1 with h2 | h2
    · exact h6 q (List.mem_of_mem_take h2)
    · simp only [List.mem_cons, List.not_mem_nil, or_false] at h2
      rcases h2 with rfl | rfl
      · exact ⟨hp.1, hp.2.1, by show (0 : Int) ≤ n; omega, by show (n : Int) ≤ 400; omega⟩
      · exact ⟨hp.1, hp.2.1, by show (0 : Int) ≤ r; omega, by show (r : Int) ≤ 400; omega⟩
  · exact h6 q (List.mem_of_mem_drop h1)
/-- Of what may be, no more came out than this. -/
theorem few_play : ∀ (sc : List (Nat × Nat)) {s : Sh} {c n t : Nat}, Fit s c n → Few s t → (∀ p ∈ sc, p.1 < c ∧ p.2 ≤ 400) → Few (play s sc) (t + 400 * sc.length)
  | [], s, c, n, t, f, w, _ => w
  | p :: r, s, c, n, t, f, w, h => by
    have hp := h p (by simp)
    have hk : p.1 < s.hs.length := by rw [f.len]; exact hp.1
    rw [play_cons]
    have e := runs_wk hk p.2
    have o := wk_ok p.2 (w0_ok f hp.1)
    have z : (w0 s p.1).n = 0 := rfl
    have w2 : Few (runs s p.1 p.2) (t + 400) := by rw [e]; exact tk_few w o.1 (by omega)
    have := few_play r (runs_fit hp.1 p.2 f) w2 (fun q hq => h q (by simp [hq]))
    rw [List.length_cons, show t + 400 * (r.length + 1) = t + 400 + 400 * r.length by omega]
    exact this
theorem few_nums {m : List UInt8} {hs : List Hv} {ps : List (Int × Int)} (hw : wrong m hs ps = 0) (ok : ∀ h ∈ hs, h.Ok) : Few (play ⟨hs, m, [], 0⟩ (nums ps)) 120000 ∧ Fit (play ⟨hs, m, [], 0⟩ (nums ps)) hs.length m.length := by
  obtain ⟨_, _, _, h4, h5, h6⟩ := wrong_ok hw
  have f : Fit ⟨hs, m, [], 0⟩ hs.length m.length := ⟨rfl, rfl, fun h hm => ⟨ok h hm, h4 h hm⟩⟩
  have hq : ∀ p ∈ nums ps, p.1 < hs.length ∧ p.2 ≤ 400 := fun p hp => by
    obtain ⟨r, hr, rfl⟩ := List.mem_map.1 hp
    have := h6 r hr
    show r.1.toNat < _ ∧ r.2.toNat ≤ _
    omega
  have := few_play (nums ps) (t := 0) f ⟨Nat.le_refl _, Nat.le_refl _⟩ hq
  have hl : (nums ps).length ≤ 300 := by unfold nums; rw [List.length_map]; exact h5
  exact ⟨⟨this.1, by have := this.2; omega⟩, play_fit _ (fun p hp => (hq p hp).1) f⟩
end Go.Proofs.YtfolphjampklpaaDoor.Mc
