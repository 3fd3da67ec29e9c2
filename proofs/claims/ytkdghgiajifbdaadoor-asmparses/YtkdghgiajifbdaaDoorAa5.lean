/-
  What the function Parse of package asm answers: the instruction whose text that is ('parseB').
-/
import Derived.Test.YtkdghgiajifbdaaDoorAa4
namespace Go.Proofs.YtkdghgiajifbdaaDoor.As
open Go.ChangeShapes Go.WideShapes Go.ChangeAt Go.RowKit Mm
set_option linter.unusedVariables false

variable {w w' : World}
theorem results_ct {P : Program} {fn : Func} {p t : Tmp} {ty : TypeId} (h : fn.results = #[.cell p ty, .tmp t]) (tmps : Array Value) (w : World) (g : Nat) (tt : TypeId) (cs : Array Value) (fr : Nat × Nat) (d : TypeDesc)
    (v : Value) (hp : tmps.getD p undef = .pointer (some ⟨g, 0, none⟩)) (hv : tmps.getD t undef = v) (hg : w.heap[g]? = some (.cells cs tt fr))
    (hu : P.underlying ty = some d) (hd : (match d with | .struct _ | .array _ _ => true | _ => false) = true) (hi : (P.info? ty).map (·.size) = some cs.size) :
    (results fn tmps).run P w = .ok (.tuple #[.agg cs, v]) w := by
  subst hv
  have hp' : tmps[p]?.getD undef = .pointer (some ⟨g, 0, none⟩) := by simpa using hp
  simp [results, h, hp', asAddr, run_loadVar_row w g tt ty cs fr d hg hu hd hi]
theorem wr_lt (op rd a b n : Int) : ∀ c ∈ wrB op rd a b n, c < 128 := fun c hc => by
  obtain ⟨x, hx, hc⟩ := List.mem_flatMap.1 hc
  unfold toldB at hc
  have := shp_ch op x hx
  repeat' split at hc
  · exact (tok_rg _).lt c hc
  · exact (tok_rg _).lt c hc
  · exact (tok_rg _).lt c hc
  · exact (tok_num _).lt c hc
  · exact (tok_num _).lt c hc
  · simp at hc; omega
theorem text_lt {op rd a b n : Int} (h : Re.IsP op rd a b n) : ∀ c ∈ textB op rd a b n, c < 256 := fun c hc => by
  unfold textB at hc
  rw [body_shp h.1.1 h.1.2.1] at hc
  rcases List.mem_append.1 hc with hc | hc
  · by_cases ha : 46 ≤ op ∧ op ≤ 56
    · have := isP_at h ha.1 ha.2
      exact name_lt h.1.1 h.1.2.1 this.1 this.2 c hc
    · rw [name_same ha 0] at hc
      exact name_lt h.1.1 h.1.2.1 (by omega) (by omega) c hc
  · split at hc
    · simp at hc
    · rcases List.mem_cons.1 hc with rfl | hc
      · omega
      · have := wr_lt op rd a b n c hc; omega
/-- What is read of a text that is none, of one that is: by what is written of what was read. -/
theorem parse_of {L : List Nat} {g1 g2 g3 g4 g5 : Int} (h : rdP L = (g1, g2, g3, g4, g5)) (hc : Re.IsP g1 g2 g3 g4 g5 ∧ textB g1 g2 g3 g4 g5 = L) : parseB L = some (g1, g2, g3, g4, g5) :=
  parse_iff.2 ⟨⟨by have := rdP_bd L; rwa [h] at this, hc.1⟩, hc.2⟩
theorem parse_no {L : List Nat} {g1 g2 g3 g4 g5 : Int} (h : rdP L = (g1, g2, g3, g4, g5)) (hc : ¬ (Re.IsP g1 g2 g3 g4 g5 ∧ textB g1 g2 g3 g4 g5 = L)) : parseB L = none := by
  match e : parseB L with
  | none => rfl
  | some f =>
    have := rdP_all e
    rw [h] at this
    subst this
    obtain ⟨⟨_, h1⟩, h2⟩ := parse_iff.1 e
    exact absurd ⟨h1, h2⟩ hc
/-- What Parse answers. -/
def prV (L : List Nat) : Value := match parseB L with
  | some f => .tuple #[insV f, .int .i64 0]
  | none => .tuple #[insV (0, 0, 0, 0, 0), .int .i64 2]
set_option maxHeartbeats 4000000 in
set_option maxRecDepth 1000000 in
theorem Parse_any {L : List Nat} (hl : ∀ c ∈ L, c < 256) (hs : L.length ≤ 140737488355328) (T : Tas w) (E : Ers w) :
    Calls Tryd.prog 24 #[.string (bs L)] w fun e w' => e = .returned (prV L) ∧ Gr w w' := by
  have H0 : Hid (∀ W : World, Calls Tryd.prog 50 #[.string (bs L), .string ⟨#[32]⟩] W fun e w' => (∃ t, e = .returned (.tuple #[.string (bs (hdB L)), .string (bs (rsB L).tail), .bool t])) ∧ Gr W w') := fun W => Cut_any hl hs W
  have hh := hd_rs L
  have HH : Hid (∀ c ∈ hdB L, c < 256) := fun c hc => hl c (by rw [← hh]; exact List.mem_append_left _ hc)
  have HLn : Hid ((bs (rsB L).tail).size ≤ 140737488355328) := by
    unfold Hid
    have := congrArg List.length hh
    rw [bs_size]
    simp at this ⊢; omega
  have H1 : Hid (∀ W : World, Tas W → Calls Tryd.prog 52 #[.string (bs (hdB L))] W fun e w' => e = .returned (.agg #[.int .i64 (nmd (hdB L)).1, .int .i64 0, .int .i64 0, .int .i64 0, .int .i32 (nmd (hdB L)).2]) ∧ Gr W w') := fun W T => named_any HH.out T
  have H2 : Hid (∀ W : World, Ers W → Calls Tryd.prog 51 #[.agg #[.int .i64 (nmd (hdB L)).1, .int .i64 0, .int .i64 0, .int .i64 0, .int .i32 (nmd (hdB L)).2], .string (bs (rsB L).tail)] W fun e w' => e = .returned (insV (rdP L)) ∧ Gr W w') := fun W E => read_any HLn.out E
  have HT : Hid (Tas w) := T
  have HE : Hid (Ers w) := E
  have hb := rdP_bd L
  have HY : Hid (∀ g1 g2 g3 g4 g5, rdP L = (g1, g2, g3, g4, g5) → (Re.IsP g1 g2 g3 g4 g5 ∧ textB g1 g2 g3 g4 g5 = L) → prV L = .tuple #[insV (g1, g2, g3, g4, g5), .int .i64 0]) := fun _ _ _ _ _ h hc => by unfold prV; rw [parse_of h hc]
  have HN : Hid (∀ g1 g2 g3 g4 g5, rdP L = (g1, g2, g3, g4, g5) → ¬ (Re.IsP g1 g2 g3 g4 g5 ∧ textB g1 g2 g3 g4 g5 = L) → prV L = .tuple #[insV (0, 0, 0, 0, 0), .int .i64 2]) := fun _ _ _ _ _ h hc => by unfold prV; rw [parse_no h hc]
  have HLL : Hid (∀ c ∈ L, c < 256) := hl
  clear T E hh HH HLn hl hs
  generalize bs (hdB L) = s1 at *
  generalize bs (rsB L).tail = s2 at *
  generalize (nmd (hdB L)).1 = o1 at *
  generalize (nmd (hdB L)).2 = o2 at *
  generalize hg : rdP L = g at *
  obtain ⟨g1, g2, g3, g4, g5⟩ := g
  have HY1 := fun hc => HY.out g1 g2 g3 g4 g5 rfl hc
  have HN1 := fun hc => HN.out g1 g2 g3 g4 g5 rfl hc
  clear HY HN hg
  simp only [insV] at H2 HY1 HN1
  simp only at hb
  have HY : Hid _ := HY1
  have HN : Hid _ := HN1
  clear HY1 HN1
  go_enter Tryd.func24, Tryd.ntmps24
  go_wp2_with fail
  refine (H0.out _).mono ?_
  rintro e W1 ⟨⟨t, rfl⟩, G1⟩
  have HG1 : Hid (Gr (w.alloc (.cells #[.int .i64 0, .int .i64 0, .int .i64 0, .int .i64 0, .int .i32 0] 23)) W1) := G1
  clear G1
  go_wp2_with fail
  refine (H1.out _ (HT.out.of (((Gr.refl _).alloc _).trans HG1.out))).mono ?_
  rintro e W2 ⟨rfl, G2⟩
  have HG2 : Hid (Gr (w.alloc (.cells #[.int .i64 0, .int .i64 0, .int .i64 0, .int .i64 0, .int .i32 0] 23)) W2) := HG1.out.trans G2
  clear G2 HG1
  go_wp2_with fail
  refine (H2.out _ (HE.out.of (((Gr.refl _).alloc _).trans HG2.out))).mono ?_
  rintro e W3 ⟨rfl, G3⟩
  have HG3 : Hid (Gr (w.alloc (.cells #[.int .i64 0, .int .i64 0, .int .i64 0, .int .i64 0, .int .i32 0] 23)) W3) := HG2.out.trans G3
  have hlt : w.heap.size < W3.heap.size := by have := HG3.out.size; simp at this; omega
  clear G3 HG2
  go_wp2_with fail
  by_cases hP : Re.IsP g1 g2 g3 g4 g5
  · have hp := Print_yes hb.1 hb.2 hP (HT.out.of (((Gr.refl _).alloc _).trans (HG3.out.alloc (.cells #[.int .i64 g1, .int .i64 g2, .int .i64 g3, .int .i64 g4, .int .i32 g5] 23))))
    by_cases hT : textB g1 g2 g3 g4 g5 = L
    · rw [hT] at hp
      have HC : Hid (Re.IsP g1 g2 g3 g4 g5 ∧ textB g1 g2 g3 g4 g5 = L) := ⟨hP, hT⟩
      clear hP hT
      refine hp.mono ?_
      clear hp
      rintro e W5 ⟨rfl, G5⟩
      rw [show str L = .string (bs L) from rfl]
      have HG5 : Hid (Gr w W5) := (((Gr.refl _).alloc _).trans (HG3.out.alloc _)).trans G5
      have HB : Hid (W5.heap[W3.heap.size]? = some (.cells #[.int .i64 g1, .int .i64 g2, .int .i64 g3, .int .i64 g4, .int .i32 g5] 23 (0, 0))) := upA G5 (heap_alloc_new W3 _)
      have HR : Hid (W5.heap[w.heap.size]? = some (.cells #[.int .i64 0, .int .i64 0, .int .i64 0, .int .i64 0, .int .i32 0] 23 (0, 0))) := upA G5 (upA ((Gr.refl W3).alloc _) (upA HG3.out (heap_alloc_new w _)))
      have z0 := cr0 HB.out
      have z1 := cr1 HB.out
      have z2 := cr2 HB.out
      have z3 := cr3 HB.out
      have z4 := cr4 HB.out
      have x0 := cr0 HR.out
      have x1 := cr1 HR.out
      have x2 := cr2 HR.out
      have x3 := cr3 HR.out
      have x4 := cr4 HR.out
      have xf : ∀ j, W5.frozen? ⟨w.heap.size, j, none⟩ = false := fun j => fzr HR.out
      clear G5
      go_wp2_with fail
      refine bodyPost_ret (v := .tuple #[.agg #[_, _, _, _, _], .int .i64 0]) (results_ct Tryd.results24 _ _ _ _ _ (0, 0) _ _ rfl rfl (five_set HR.out _ _ _ _ _) Tryd.underlying23 rfl iIn) rfl ⟨by rw [HY.out HC.out], ?_⟩
      exact ((((HG5.out.setCell (Nat.le_refl _) _).setCell (Nat.le_refl _) _).setCell (Nat.le_refl _) _).setCell (Nat.le_refl _) _).setCell (Nat.le_refl _) _
    · have hq : ((bs (textB g1 g2 g3 g4 g5)).toList == (bs L).toList) = false := by rw [beq_bs (text_lt hP) HLL.out]; exact decide_eq_false hT
      have HC : Hid (¬ (Re.IsP g1 g2 g3 g4 g5 ∧ textB g1 g2 g3 g4 g5 = L)) := fun h => hT h.2
      clear hP hT
      refine hp.mono ?_
      clear hp
      rintro e W5 ⟨rfl, G5⟩
      rw [show str (textB g1 g2 g3 g4 g5) = .string (bs (textB g1 g2 g3 g4 g5)) from rfl]
      have HG5 : Hid (Gr w W5) := (((Gr.refl _).alloc _).trans (HG3.out.alloc _)).trans G5
      have HB : Hid (W5.heap[W3.heap.size]? = some (.cells #[.int .i64 g1, .int .i64 g2, .int .i64 g3, .int .i64 g4, .int .i32 g5] 23 (0, 0))) := upA G5 (heap_alloc_new W3 _)
      have HR : Hid (W5.heap[w.heap.size]? = some (.cells #[.int .i64 0, .int .i64 0, .int .i64 0, .int .i64 0, .int .i32 0] 23 (0, 0))) := upA G5 (upA ((Gr.refl W3).alloc _) (upA HG3.out (heap_alloc_new w _)))
      have z0 := cr0 HB.out
      have z1 := cr1 HB.out
      have z2 := cr2 HB.out
      have z3 := cr3 HB.out
      have z4 := cr4 HB.out
      have x0 := cr0 HR.out
      have x1 := cr1 HR.out
      have x2 := cr2 HR.out
      have x3 := cr3 HR.out
      have x4 := cr4 HR.out
      have xf : ∀ j, W5.frozen? ⟨w.heap.size, j, none⟩ = false := fun j => fzr HR.out
      clear G5
      go_wp2_with fail
      refine bodyPost_ret (v := .tuple #[.agg #[_, _, _, _, _], .int .i64 2]) (results_ct Tryd.results24 _ _ _ _ _ (0, 0) _ _ rfl rfl (five_set HR.out _ _ _ _ _) Tryd.underlying23 rfl iIn) rfl ⟨by rw [HN.out HC.out], ?_⟩
      exact ((((HG5.out.setCell (Nat.le_refl _) _).setCell (Nat.le_refl _) _).setCell (Nat.le_refl _) _).setCell (Nat.le_refl _) _).setCell (Nat.le_refl _) _
  · have hp := Print_no hb.1 hb.2 hP (HT.out.of (((Gr.refl _).alloc _).trans (HG3.out.alloc (.cells #[.int .i64 g1, .int .i64 g2, .int .i64 g3, .int .i64 g4, .int .i32 g5] 23))))
    · have HC : Hid (¬ (Re.IsP g1 g2 g3 g4 g5 ∧ textB g1 g2 g3 g4 g5 = L)) := fun h => hP h.1
      clear hP
      refine hp.mono ?_
      clear hp
      rintro e W5 ⟨rfl, G5⟩
      have HG5 : Hid (Gr w W5) := (((Gr.refl _).alloc _).trans (HG3.out.alloc _)).trans G5
      have HB : Hid (W5.heap[W3.heap.size]? = some (.cells #[.int .i64 g1, .int .i64 g2, .int .i64 g3, .int .i64 g4, .int .i32 g5] 23 (0, 0))) := upA G5 (heap_alloc_new W3 _)
      have HR : Hid (W5.heap[w.heap.size]? = some (.cells #[.int .i64 0, .int .i64 0, .int .i64 0, .int .i64 0, .int .i32 0] 23 (0, 0))) := upA G5 (upA ((Gr.refl W3).alloc _) (upA HG3.out (heap_alloc_new w _)))
      have z0 := cr0 HB.out
      have z1 := cr1 HB.out
      have z2 := cr2 HB.out
      have z3 := cr3 HB.out
      have z4 := cr4 HB.out
      have x0 := cr0 HR.out
      have x1 := cr1 HR.out
      have x2 := cr2 HR.out
      have x3 := cr3 HR.out
      have x4 := cr4 HR.out
      have xf : ∀ j, W5.frozen? ⟨w.heap.size, j, none⟩ = false := fun j => fzr HR.out
      clear G5
      go_wp2_with fail
      refine bodyPost_ret (v := .tuple #[.agg #[_, _, _, _, _], .int .i64 2]) (results_ct Tryd.results24 _ _ _ _ _ (0, 0) _ _ rfl rfl (five_set HR.out _ _ _ _ _) Tryd.underlying23 rfl iIn) rfl ⟨by rw [HN.out HC.out], ?_⟩
      exact ((((HG5.out.setCell (Nat.le_refl _) _).setCell (Nat.le_refl _) _).setCell (Nat.le_refl _) _).setCell (Nat.le_refl _) _).setCell (Nat.le_refl _) _
end Go.Proofs.YtkdghgiajifbdaaDoor.As
