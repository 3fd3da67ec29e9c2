/-
  What the document's read answers, whole: what follows a name as fields ('rdB'), and whether the number fits.
-/
import Derived.Test.YtkdghgiajifbdaaDoorAb8a
import Derived.Test.YtkdghgiajifbdaaDoorAb8b
import Derived.Test.YtkdghgiajifbdaaDoorAb8c
import Derived.Test.YtkdghgiajifbdaaDoorAb8d
namespace Go.Proofs.YtkdghgiajifbdaaDoor.As
open Go.ChangeShapes Go.WideShapes Go.ChangeAt Go.RowKit Mm
set_option linter.unusedVariables false

variable {w w' : World} {L : List Nat} {g : Nat} {o : Option (List Nat)}
theorem eatC (hL : ∀ x ∈ L, x < 256) (hl : L.length ≤ 140737488355328) (c : Nat) (hc : c < 256) (o : Option (List Nat)) : EatC g L (UInt8.ofNat c) o (o.bind (eatB c)) := fun W X => eat_any hc hL hl X
theorem numC (hL : ∀ x ∈ L, x < 256) (hl : L.length ≤ 140737488355328) (o : Option (List Nat)) : NumC g L o (fstD (o.bind numB)) (sndO (o.bind numB)) := fun W X => num_at hL hl X
theorem regC (hL : ∀ x ∈ L, x < 256) (hl : L.length ≤ 140737488355328) (o : Option (List Nat)) : RegC g L o (fstD (o.bind rgB)) (sndO (o.bind rgB)) := fun W X => reg_any hL hl X
theorem plcC (hL : ∀ x ∈ L, x < 256) (hl : L.length ≤ 140737488355328) (o : Option (List Nat)) : PlcC g L o (fstD ((o.bind (eatB 40)).bind rgB)) (sndO (o.bind rp)) := fun W X => place_any hL hl X
/-- What read answers, by what the text is: fields and a number, or none. -/
def RdF (w : World) (op : Int) (x : Option Fo) (e : Ending) (w' : World) : Prop :=
  ∃ (g1 g2 g3 g4 g5 : Int) (t : Bool), e = .returned (.tuple #[.agg #[.int .i64 g1, .int .i64 g2, .int .i64 g3, .int .i64 g4, .int .i32 g5], .bool t]) ∧ Gr w w' ∧ (-2147483648 ≤ g5 ∧ g5 < 2147483648) ∧
    (t = true → ∃ f : Fo, x = some f ∧ (-2147483648 ≤ wn op f.2.2.2 ∧ wn op f.2.2.2 < 2147483648) ∧ (g1, g2, g3, g4, g5) = (op, f.1, f.2.1, f.2.2.1, wn op f.2.2.2)) ∧
    (t = false → ∀ f : Fo, x = some f → ¬ (-2147483648 ≤ wn op f.2.2.2 ∧ wn op f.2.2.2 < 2147483648))
theorem rdf_of {op rd a b n : Int} {x : Option Fo} {e : Ending} (h : RdE w o op rd a b n e w') (h1 : ∀ f, x = some f → o = some [] ∧ f.1 = rd ∧ f.2.1 = a ∧ f.2.2.1 = b ∧ wn op f.2.2.2 = n) (h2 : o = some [] → ∃ f, x = some f) : RdF w op x e w' := by
  obtain ⟨g1, g2, g3, g4, g5, t, he, hg, hb, hi, hv⟩ := h
  refine ⟨g1, g2, g3, g4, g5, t, he, hg, hb, fun ht => ?_, fun ht f hf hw => ?_⟩
  · obtain ⟨ho, n0, n1⟩ := hi.1 ht
    obtain ⟨f, hf⟩ := h2 ho
    obtain ⟨_, e1, e2, e3, e4⟩ := h1 f hf
    exact ⟨f, hf, by rw [e4]; exact ⟨n0, n1⟩, by rw [e1, e2, e3, e4]; exact hv ht⟩
  · obtain ⟨ho, _, _, _, e4⟩ := h1 f hf
    rw [e4] at hw
    rw [hi.2 ⟨ho, hw.1, hw.2⟩] at ht
    cases ht
/-! ### By classes -/
theorem leaf_no {op rd a b n : Int} {x : Option Fo} {e : Ending} (h : RdE w o op rd a b n e w') (hx : x = none) (ho : o ≠ some []) : RdF w op x e w' :=
  rdf_of h (fun f hf => by rw [hx] at hf; cases hf) (fun h => absurd h ho)
theorem leaf_yes {op rd a b n k : Int} {x : Option Fo} {e : Ending} (h : RdE w o op rd a b n e w') (hx : x = some (rd, a, b, k)) (hk : wn op k = n) : RdF w op x e w' ∨ o ≠ some [] := by
  by_cases ho : o = some []
  · exact .inl (rdf_of h (fun f hf => by rw [hx] at hf; injection hf with hf; subst hf; exact ⟨ho, rfl, rfl, rfl, hk⟩) (fun _ => ⟨_, hx⟩))
  · exact .inr ho
theorem leaf_fin {op rd a b n k : Int} {v : List Nat} {e : Ending} (h : RdE w (some v) op rd a b n e w') (hk : wn op k = n) : RdF w op (fin (rd, a, b, k) v) e w' := by
  unfold fin
  by_cases hv : v = []
  · rw [if_pos hv]
    exact (leaf_yes h rfl hk).resolve_right (fun h => h (by rw [hv]))
  · rw [if_neg hv]
    exact leaf_no h rfl (fun h => hv (by injection h))
theorem rc_st (t : List Nat) : (sndO (rgB t)).bind (eatB 44) = sndO (rc t) ∧ ∀ f r, rc t = some (f, r) → fstD (rgB t) = f := by
  unfold rc sndO fstD
  cases rgB t with
  | none => exact ⟨rfl, fun n r h => by cases h⟩
  | some p =>
    simp only [Option.bind_some, Option.map_some, Option.getD_some]
    cases eatB 44 p.2 with
    | none => exact ⟨rfl, fun n r h => by cases h⟩
    | some u => exact ⟨rfl, fun n r h => by simp at h; exact h.1⟩
theorem r1_st (l : List Nat) : (sndO (((some l).bind (eatB 32)).bind rgB)).bind (eatB 44) = sndO (r1 l) ∧ ∀ f r, r1 l = some (f, r) → fstD (((some l).bind (eatB 32)).bind rgB) = f := by
  unfold r1
  simp only [Option.bind_some]
  cases eatB 32 l with
  | none => exact ⟨rfl, fun n r h => by cases h⟩
  | some t => exact rc_st t
theorem rd_k1 {op m : Int} (hL : ∀ x ∈ L, x < 256) (hl : L.length ≤ 140737488355328) (h : 1 ≤ op ∧ op ≤ 3) (m0 : 0 ≤ m) (m3 : m ≤ 3) (w : World) :
    Calls Tryd.prog 53 #[.int .i64 op, .int .i32 m, .string (bs L)] w (RdF w op (rdB op m L)) := by
  have h2 : ¬ (4 ≤ op) ∨ ¬ F2 op := by by_cases h4 : 4 ≤ op; right; unfold F2; omega; left; exact h4
  have E : rdB op m L = (r1 L).bind fun p => (numB p.2).bind fun u => fin (p.1, 0, 0, u.1) u.2 := by
    unfold rdB
    rw [if_neg (show ¬ 58 ≤ op by omega)]
    refine congrArg _ (funext fun p => ?_)
    rw [if_pos (show op ≤ 3 by omega)]
  rw [E]
  have KEY : ∀ e w', RdE w (sndO (((sndO (((some L).bind (eatB 32)).bind rgB)).bind (eatB 44)).bind numB)) op (fstD (((some L).bind (eatB 32)).bind rgB)) (0) (0) (wn op (fstD (((sndO (((some L).bind (eatB 32)).bind rgB)).bind (eatB 44)).bind numB))) e w' → RdF w op ((r1 L).bind fun p => (numB p.2).bind fun u => fin (p.1, 0, 0, u.1) u.2) e w' := fun e w' h => by
    obtain ⟨PS, PV⟩ := r1_st L
    rw [PS] at h
    match e1 : r1 L with
    | none =>
      rw [e1] at h
      exact leaf_no h rfl (by simp [sndO])
    | some (f, t) =>
      rw [e1, PV f t e1] at h
      have h : RdE w (sndO (numB t)) op (f) (0) (0) (wn op (fstD (numB t))) e w' := h
      match e2 : numB t with
      | none =>
        rw [e2] at h
        exact leaf_no h (by simp [e2]) (by simp [sndO])
      | some (u, s) =>
        rw [e2] at h
        have h : RdE w (some s) op (f) (0) (0) (wn op (u)) e w' := h
        have := leaf_fin (k := u) h rfl
        simpa [e2] using this
  by_cases h0c : op ≤ 2
  · exact (read_k1a hl (by omega) (by omega) m0 m3 (fst_lt _).1 (fst_lt _).2 rfl (eatC hL hl 32 (by omega) _) (regC hL hl _) (eatC hL hl 44 (by omega) _) (numC hL hl _)).mono fun e w' h => KEY e w' (by unfold wn; rw [if_pos h0c]; exact h)
  exact (read_k1b hl (by omega) (by omega) m0 m3 (fst_lt _).1 (fst_lt _).2 rfl (eatC hL hl 32 (by omega) _) (regC hL hl _) (eatC hL hl 44 (by omega) _) (numC hL hl _)).mono fun e w' h => KEY e w' (by unfold wn; rw [if_neg h0c]; exact h)
theorem rd_k2 {op m : Int} (hL : ∀ x ∈ L, x < 256) (hl : L.length ≤ 140737488355328) (h : F2 op) (m0 : 0 ≤ m) (m3 : m ≤ 3) (w : World) :
    Calls Tryd.prog 53 #[.int .i64 op, .int .i32 m, .string (bs L)] w (RdF w op (rdB op m L)) := by
  have hF := h
  unfold F2 at hF
  have E : rdB op m L = (r1 L).bind fun p => (rc p.2).bind fun q => (numB q.2).bind fun u => fin (p.1, q.1, 0, u.1) u.2 := by
    unfold rdB
    rw [if_neg (show ¬ 58 ≤ op by omega)]
    refine congrArg _ (funext fun p => ?_)
    rw [if_neg (show ¬ op ≤ 3 by omega), if_pos h]
  rw [E]
  have KEY : ∀ e w', RdE w (sndO (((sndO (((sndO (((some L).bind (eatB 32)).bind rgB)).bind (eatB 44)).bind rgB)).bind (eatB 44)).bind numB)) op (fstD (((some L).bind (eatB 32)).bind rgB)) (fstD (((sndO (((some L).bind (eatB 32)).bind rgB)).bind (eatB 44)).bind rgB)) (0) (fstD (((sndO (((sndO (((some L).bind (eatB 32)).bind rgB)).bind (eatB 44)).bind rgB)).bind (eatB 44)).bind numB)) e w' → RdF w op ((r1 L).bind fun p => (rc p.2).bind fun q => (numB q.2).bind fun u => fin (p.1, q.1, 0, u.1) u.2) e w' := fun e w' h => by
    obtain ⟨PS, PV⟩ := r1_st L
    rw [PS] at h
    match e1 : r1 L with
    | none =>
      rw [e1] at h
      exact leaf_no h rfl (by simp [sndO])
    | some (f, t) =>
      rw [e1, PV f t e1] at h
      have h : RdE w (sndO (((sndO (rgB t)).bind (eatB 44)).bind numB)) op (f) (fstD (rgB t)) (0) (fstD (((sndO (rgB t)).bind (eatB 44)).bind numB)) e w' := h
      obtain ⟨PS0, PV0⟩ := rc_st t
      rw [PS0] at h
      match e2 : rc t with
      | none =>
        rw [e2] at h
        exact leaf_no h (by simp [e2]) (by simp [sndO])
      | some (q, s) =>
        rw [e2, PV0 q s e2] at h
        have h : RdE w (sndO (numB s)) op (f) (q) (0) (fstD (numB s)) e w' := h
        match e3 : numB s with
        | none =>
          rw [e3] at h
          exact leaf_no h (by simp [e2, e3]) (by simp [sndO])
        | some (u, r) =>
          rw [e3] at h
          have h : RdE w (some r) op (f) (q) (0) (u) e w' := h
          have := leaf_fin (k := u) h (by unfold wn; rw [if_neg (by omega)])
          simpa [e2, e3] using this
  by_cases h0c : op = 4
  · exact (read_k2a hl (by omega) (by omega) m0 m3 (fst_lt _).1 (fst_lt _).2 rfl (eatC hL hl 32 (by omega) _) (regC hL hl _) (eatC hL hl 44 (by omega) _) (regC hL hl _) (eatC hL hl 44 (by omega) _) (numC hL hl _)).mono fun e w' h => KEY e w' h
  by_cases h1c : 19 ≤ op ∧ op ≤ 27
  · exact (read_k2b hl (by omega) (by omega) m0 m3 (fst_lt _).1 (fst_lt _).2 rfl (eatC hL hl 32 (by omega) _) (regC hL hl _) (eatC hL hl 44 (by omega) _) (regC hL hl _) (eatC hL hl 44 (by omega) _) (numC hL hl _)).mono fun e w' h => KEY e w' h
  exact (read_k2c hl (by omega) (by omega) m0 m3 (fst_lt _).1 (fst_lt _).2 rfl (eatC hL hl 32 (by omega) _) (regC hL hl _) (eatC hL hl 44 (by omega) _) (regC hL hl _) (eatC hL hl 44 (by omega) _) (numC hL hl _)).mono fun e w' h => KEY e w' h
theorem rd_k3 {op m : Int} (hL : ∀ x ∈ L, x < 256) (hl : L.length ≤ 140737488355328) (h : 5 ≤ op ∧ op ≤ 10) (m0 : 0 ≤ m) (m3 : m ≤ 3) (w : World) :
    Calls Tryd.prog 53 #[.int .i64 op, .int .i32 m, .string (bs L)] w (RdF w op (rdB op m L)) := by
  have h2 : ¬ F2 op := by unfold F2; omega
  have E : rdB op m L = (r1 L).bind fun p => (rc p.2).bind fun q => (numB q.2).bind fun u => fin (0, p.1, q.1, u.1) u.2 := by
    unfold rdB
    rw [if_neg (show ¬ 58 ≤ op by omega)]
    refine congrArg _ (funext fun p => ?_)
    rw [if_neg (show ¬ op ≤ 3 by omega), if_neg h2, if_pos (show op ≤ 10 by omega)]
  rw [E]
  have KEY : ∀ e w', RdE w (sndO (((sndO (((sndO (((some L).bind (eatB 32)).bind rgB)).bind (eatB 44)).bind rgB)).bind (eatB 44)).bind numB)) op (0) (fstD (((some L).bind (eatB 32)).bind rgB)) (fstD (((sndO (((some L).bind (eatB 32)).bind rgB)).bind (eatB 44)).bind rgB)) (fstD (((sndO (((sndO (((some L).bind (eatB 32)).bind rgB)).bind (eatB 44)).bind rgB)).bind (eatB 44)).bind numB)) e w' → RdF w op ((r1 L).bind fun p => (rc p.2).bind fun q => (numB q.2).bind fun u => fin (0, p.1, q.1, u.1) u.2) e w' := fun e w' h => by
    obtain ⟨PS, PV⟩ := r1_st L
    rw [PS] at h
    match e1 : r1 L with
    | none =>
      rw [e1] at h
      exact leaf_no h rfl (by simp [sndO])
    | some (f, t) =>
      rw [e1, PV f t e1] at h
      have h : RdE w (sndO (((sndO (rgB t)).bind (eatB 44)).bind numB)) op (0) (f) (fstD (rgB t)) (fstD (((sndO (rgB t)).bind (eatB 44)).bind numB)) e w' := h
      obtain ⟨PS0, PV0⟩ := rc_st t
      rw [PS0] at h
      match e2 : rc t with
      | none =>
        rw [e2] at h
        exact leaf_no h (by simp [e2]) (by simp [sndO])
      | some (q, s) =>
        rw [e2, PV0 q s e2] at h
        have h : RdE w (sndO (numB s)) op (0) (f) (q) (fstD (numB s)) e w' := h
        match e3 : numB s with
        | none =>
          rw [e3] at h
          exact leaf_no h (by simp [e2, e3]) (by simp [sndO])
        | some (u, r) =>
          rw [e3] at h
          have h : RdE w (some r) op (0) (f) (q) (u) e w' := h
          have := leaf_fin (k := u) h (by unfold wn; rw [if_neg (by omega)])
          simpa [e2, e3] using this
  exact (read_k3 hl (by omega) (by omega) m0 m3 (fst_lt _).1 (fst_lt _).2 rfl (eatC hL hl 32 (by omega) _) (regC hL hl _) (eatC hL hl 44 (by omega) _) (regC hL hl _) (eatC hL hl 44 (by omega) _) (numC hL hl _)).mono fun e w' h => KEY e w' h
theorem rd_k4 {op m : Int} (hL : ∀ x ∈ L, x < 256) (hl : L.length ≤ 140737488355328) (h : 11 ≤ op ∧ op ≤ 15) (m0 : 0 ≤ m) (m3 : m ≤ 3) (w : World) :
    Calls Tryd.prog 53 #[.int .i64 op, .int .i32 m, .string (bs L)] w (RdF w op (rdB op m L)) := by
  have h2 : ¬ F2 op := by unfold F2; omega
  have E : rdB op m L = (r1 L).bind fun p => (numB p.2).bind fun q => (rp q.2).bind fun u => fin (p.1, u.1, 0, q.1) u.2 := by
    unfold rdB
    rw [if_neg (show ¬ 58 ≤ op by omega)]
    refine congrArg _ (funext fun p => ?_)
    rw [if_neg (show ¬ op ≤ 3 by omega), if_neg h2, if_neg (show ¬ op ≤ 10 by omega), if_pos (show op ≤ 15 by omega)]
  rw [E]
  have KEY : ∀ e w', RdE w (sndO ((sndO (((sndO (((some L).bind (eatB 32)).bind rgB)).bind (eatB 44)).bind numB)).bind rp)) op (fstD (((some L).bind (eatB 32)).bind rgB)) (fstD (((sndO (((sndO (((some L).bind (eatB 32)).bind rgB)).bind (eatB 44)).bind numB)).bind (eatB 40)).bind rgB)) (0) (fstD (((sndO (((some L).bind (eatB 32)).bind rgB)).bind (eatB 44)).bind numB)) e w' → RdF w op ((r1 L).bind fun p => (numB p.2).bind fun q => (rp q.2).bind fun u => fin (p.1, u.1, 0, q.1) u.2) e w' := fun e w' h => by
    obtain ⟨PS, PV⟩ := r1_st L
    rw [PS] at h
    match e1 : r1 L with
    | none =>
      rw [e1] at h
      exact leaf_no h rfl (by simp [sndO])
    | some (f, t) =>
      rw [e1, PV f t e1] at h
      have h : RdE w (sndO ((sndO (numB t)).bind rp)) op (f) (fstD (((sndO (numB t)).bind (eatB 40)).bind rgB)) (0) (fstD (numB t)) e w' := h
      match e2 : numB t with
      | none =>
        rw [e2] at h
        exact leaf_no h (by simp [e2]) (by simp [sndO])
      | some (q, s) =>
        rw [e2] at h
        have h : RdE w (sndO (rp s)) op (f) (fstD ((eatB 40 s).bind rgB)) (0) (q) e w' := h
        obtain ⟨-, PV1⟩ := bind_rp (some s)
        match e3 : rp s with
        | none =>
          rw [e3] at h
          exact leaf_no h (by simp [e2, e3]) (by simp [sndO])
        | some (u, r) =>
          have PW := PV1 u r e3
          rw [e3] at h
          rw [show (eatB 40 s).bind rgB = ((some s).bind (eatB 40)).bind rgB from rfl, PW] at h
          have h : RdE w (some r) op (f) (u) (0) (q) e w' := h
          have := leaf_fin (k := q) h (by unfold wn; rw [if_neg (by omega)])
          simpa [e2, e3] using this
  exact (read_k4 hl (by omega) (by omega) m0 m3 (fst_lt _).1 (fst_lt _).2 rfl (eatC hL hl 32 (by omega) _) (regC hL hl _) (eatC hL hl 44 (by omega) _) (numC hL hl _) (plcC hL hl _)).mono fun e w' h => KEY e w' h
theorem rd_k5 {op m : Int} (hL : ∀ x ∈ L, x < 256) (hl : L.length ≤ 140737488355328) (h : 16 ≤ op ∧ op ≤ 18) (m0 : 0 ≤ m) (m3 : m ≤ 3) (w : World) :
    Calls Tryd.prog 53 #[.int .i64 op, .int .i32 m, .string (bs L)] w (RdF w op (rdB op m L)) := by
  have h2 : ¬ F2 op := by unfold F2; omega
  have E : rdB op m L = (r1 L).bind fun p => (numB p.2).bind fun q => (rp q.2).bind fun u => fin (0, u.1, p.1, q.1) u.2 := by
    unfold rdB
    rw [if_neg (show ¬ 58 ≤ op by omega)]
    refine congrArg _ (funext fun p => ?_)
    rw [if_neg (show ¬ op ≤ 3 by omega), if_neg h2, if_neg (show ¬ op ≤ 10 by omega), if_neg (show ¬ op ≤ 15 by omega), if_pos (show op ≤ 18 by omega)]
  rw [E]
  have KEY : ∀ e w', RdE w (sndO ((sndO (((sndO (((some L).bind (eatB 32)).bind rgB)).bind (eatB 44)).bind numB)).bind rp)) op (0) (fstD (((sndO (((sndO (((some L).bind (eatB 32)).bind rgB)).bind (eatB 44)).bind numB)).bind (eatB 40)).bind rgB)) (fstD (((some L).bind (eatB 32)).bind rgB)) (fstD (((sndO (((some L).bind (eatB 32)).bind rgB)).bind (eatB 44)).bind numB)) e w' → RdF w op ((r1 L).bind fun p => (numB p.2).bind fun q => (rp q.2).bind fun u => fin (0, u.1, p.1, q.1) u.2) e w' := fun e w' h => by
    obtain ⟨PS, PV⟩ := r1_st L
    rw [PS] at h
    match e1 : r1 L with
    | none =>
      rw [e1] at h
      exact leaf_no h rfl (by simp [sndO])
    | some (f, t) =>
      rw [e1, PV f t e1] at h
      have h : RdE w (sndO ((sndO (numB t)).bind rp)) op (0) (fstD (((sndO (numB t)).bind (eatB 40)).bind rgB)) (f) (fstD (numB t)) e w' := h
      match e2 : numB t with
      | none =>
        rw [e2] at h
        exact leaf_no h (by simp [e2]) (by simp [sndO])
      | some (q, s) =>
        rw [e2] at h
        have h : RdE w (sndO (rp s)) op (0) (fstD ((eatB 40 s).bind rgB)) (f) (q) e w' := h
        obtain ⟨-, PV1⟩ := bind_rp (some s)
        match e3 : rp s with
        | none =>
          rw [e3] at h
          exact leaf_no h (by simp [e2, e3]) (by simp [sndO])
        | some (u, r) =>
          have PW := PV1 u r e3
          rw [e3] at h
          rw [show (eatB 40 s).bind rgB = ((some s).bind (eatB 40)).bind rgB from rfl, PW] at h
          have h : RdE w (some r) op (0) (u) (f) (q) e w' := h
          have := leaf_fin (k := q) h (by unfold wn; rw [if_neg (by omega)])
          simpa [e2, e3] using this
  exact (read_k5 hl (by omega) (by omega) m0 m3 (fst_lt _).1 (fst_lt _).2 rfl (eatC hL hl 32 (by omega) _) (regC hL hl _) (eatC hL hl 44 (by omega) _) (numC hL hl _) (plcC hL hl _)).mono fun e w' h => KEY e w' h
theorem rd_k6 {op m : Int} (hL : ∀ x ∈ L, x < 256) (hl : L.length ≤ 140737488355328) (h : 28 ≤ op ∧ op ≤ 45) (m0 : 0 ≤ m) (m3 : m ≤ 3) (w : World) :
    Calls Tryd.prog 53 #[.int .i64 op, .int .i32 m, .string (bs L)] w (RdF w op (rdB op m L)) := by
  have h2 : ¬ F2 op := by unfold F2; omega
  have E : rdB op m L = (r1 L).bind fun p => (rc p.2).bind fun q => (rgB q.2).bind fun u => fin (p.1, q.1, u.1, 0) u.2 := by
    unfold rdB
    rw [if_neg (show ¬ 58 ≤ op by omega)]
    refine congrArg _ (funext fun p => ?_)
    rw [if_neg (show ¬ op ≤ 3 by omega), if_neg h2, if_neg (show ¬ op ≤ 10 by omega), if_neg (show ¬ op ≤ 15 by omega), if_neg (show ¬ op ≤ 18 by omega), if_pos (show op ≤ 45 by omega)]
  rw [E]
  have KEY : ∀ e w', RdE w (sndO (((sndO (((sndO (((some L).bind (eatB 32)).bind rgB)).bind (eatB 44)).bind rgB)).bind (eatB 44)).bind rgB)) op (fstD (((some L).bind (eatB 32)).bind rgB)) (fstD (((sndO (((some L).bind (eatB 32)).bind rgB)).bind (eatB 44)).bind rgB)) (fstD (((sndO (((sndO (((some L).bind (eatB 32)).bind rgB)).bind (eatB 44)).bind rgB)).bind (eatB 44)).bind rgB)) (0) e w' → RdF w op ((r1 L).bind fun p => (rc p.2).bind fun q => (rgB q.2).bind fun u => fin (p.1, q.1, u.1, 0) u.2) e w' := fun e w' h => by
    obtain ⟨PS, PV⟩ := r1_st L
    rw [PS] at h
    match e1 : r1 L with
    | none =>
      rw [e1] at h
      exact leaf_no h rfl (by simp [sndO])
    | some (f, t) =>
      rw [e1, PV f t e1] at h
      have h : RdE w (sndO (((sndO (rgB t)).bind (eatB 44)).bind rgB)) op (f) (fstD (rgB t)) (fstD (((sndO (rgB t)).bind (eatB 44)).bind rgB)) (0) e w' := h
      obtain ⟨PS0, PV0⟩ := rc_st t
      rw [PS0] at h
      match e2 : rc t with
      | none =>
        rw [e2] at h
        exact leaf_no h (by simp [e2]) (by simp [sndO])
      | some (q, s) =>
        rw [e2, PV0 q s e2] at h
        have h : RdE w (sndO (rgB s)) op (f) (q) (fstD (rgB s)) (0) e w' := h
        match e3 : rgB s with
        | none =>
          rw [e3] at h
          exact leaf_no h (by simp [e2, e3]) (by simp [sndO])
        | some (u, r) =>
          rw [e3] at h
          have h : RdE w (some r) op (f) (q) (u) (0) e w' := h
          have := leaf_fin (k := 0) h (by unfold wn; rw [if_neg (by omega)])
          simpa [e2, e3] using this
  exact (read_k6 hl (by omega) (by omega) m0 m3 rfl (eatC hL hl 32 (by omega) _) (regC hL hl _) (eatC hL hl 44 (by omega) _) (regC hL hl _) (eatC hL hl 44 (by omega) _) (regC hL hl _)).mono fun e w' h => KEY e w' h
theorem rd_k7 {op m : Int} (hL : ∀ x ∈ L, x < 256) (hl : L.length ≤ 140737488355328) (h : op = 46) (m0 : 0 ≤ m) (m3 : m ≤ 3) (w : World) :
    Calls Tryd.prog 53 #[.int .i64 op, .int .i32 m, .string (bs L)] w (RdF w op (rdB op m L)) := by
  have h2 : ¬ F2 op := by unfold F2; omega
  have E : rdB op m L = (r1 L).bind fun p => (rp p.2).bind fun u => fin (p.1, u.1, 0, m) u.2 := by
    unfold rdB
    rw [if_neg (show ¬ 58 ≤ op by omega)]
    refine congrArg _ (funext fun p => ?_)
    rw [if_neg (show ¬ op ≤ 3 by omega), if_neg h2, if_neg (show ¬ op ≤ 10 by omega), if_neg (show ¬ op ≤ 15 by omega), if_neg (show ¬ op ≤ 18 by omega), if_neg (show ¬ op ≤ 45 by omega), if_pos h]
  rw [E]
  have KEY : ∀ e w', RdE w (sndO (((sndO (((some L).bind (eatB 32)).bind rgB)).bind (eatB 44)).bind rp)) op (fstD (((some L).bind (eatB 32)).bind rgB)) (fstD ((((sndO (((some L).bind (eatB 32)).bind rgB)).bind (eatB 44)).bind (eatB 40)).bind rgB)) (0) (m) e w' → RdF w op ((r1 L).bind fun p => (rp p.2).bind fun u => fin (p.1, u.1, 0, m) u.2) e w' := fun e w' h => by
    obtain ⟨PS, PV⟩ := r1_st L
    rw [PS] at h
    match e1 : r1 L with
    | none =>
      rw [e1] at h
      exact leaf_no h rfl (by simp [sndO])
    | some (f, t) =>
      rw [e1, PV f t e1] at h
      have h : RdE w (sndO (rp t)) op (f) (fstD ((eatB 40 t).bind rgB)) (0) (m) e w' := h
      obtain ⟨-, PV0⟩ := bind_rp (some t)
      match e2 : rp t with
      | none =>
        rw [e2] at h
        exact leaf_no h (by simp [e2]) (by simp [sndO])
      | some (u, s) =>
        have PW := PV0 u s e2
        rw [e2] at h
        rw [show (eatB 40 t).bind rgB = ((some t).bind (eatB 40)).bind rgB from rfl, PW] at h
        have h : RdE w (some s) op (f) (u) (0) (m) e w' := h
        have := leaf_fin (k := m) h (by unfold wn; rw [if_neg (by omega)])
        simpa [e2] using this
  exact (read_k7 hl (by omega) (by omega) m0 m3 rfl (eatC hL hl 32 (by omega) _) (regC hL hl _) (eatC hL hl 44 (by omega) _) (plcC hL hl _)).mono fun e w' h => KEY e w' h
theorem rd_k8 {op m : Int} (hL : ∀ x ∈ L, x < 256) (hl : L.length ≤ 140737488355328) (h : 47 ≤ op ∧ op ≤ 56) (m0 : 0 ≤ m) (m3 : m ≤ 3) (w : World) :
    Calls Tryd.prog 53 #[.int .i64 op, .int .i32 m, .string (bs L)] w (RdF w op (rdB op m L)) := by
  have h2 : ¬ F2 op := by unfold F2; omega
  have E : rdB op m L = (r1 L).bind fun p => (rc p.2).bind fun q => (rp q.2).bind fun u => fin (p.1, u.1, q.1, m) u.2 := by
    unfold rdB
    rw [if_neg (show ¬ 58 ≤ op by omega)]
    refine congrArg _ (funext fun p => ?_)
    rw [if_neg (show ¬ op ≤ 3 by omega), if_neg h2, if_neg (show ¬ op ≤ 10 by omega), if_neg (show ¬ op ≤ 15 by omega), if_neg (show ¬ op ≤ 18 by omega), if_neg (show ¬ op ≤ 45 by omega), if_neg (show ¬ op = 46 by omega)]
  rw [E]
  have KEY : ∀ e w', RdE w (sndO (((sndO (((sndO (((some L).bind (eatB 32)).bind rgB)).bind (eatB 44)).bind rgB)).bind (eatB 44)).bind rp)) op (fstD (((some L).bind (eatB 32)).bind rgB)) (fstD ((((sndO (((sndO (((some L).bind (eatB 32)).bind rgB)).bind (eatB 44)).bind rgB)).bind (eatB 44)).bind (eatB 40)).bind rgB)) (fstD (((sndO (((some L).bind (eatB 32)).bind rgB)).bind (eatB 44)).bind rgB)) (m) e w' → RdF w op ((r1 L).bind fun p => (rc p.2).bind fun q => (rp q.2).bind fun u => fin (p.1, u.1, q.1, m) u.2) e w' := fun e w' h => by
    obtain ⟨PS, PV⟩ := r1_st L
    rw [PS] at h
    match e1 : r1 L with
    | none =>
      rw [e1] at h
      exact leaf_no h rfl (by simp [sndO])
    | some (f, t) =>
      rw [e1, PV f t e1] at h
      have h : RdE w (sndO (((sndO (rgB t)).bind (eatB 44)).bind rp)) op (f) (fstD ((((sndO (rgB t)).bind (eatB 44)).bind (eatB 40)).bind rgB)) (fstD (rgB t)) (m) e w' := h
      obtain ⟨PS0, PV0⟩ := rc_st t
      rw [PS0] at h
      match e2 : rc t with
      | none =>
        rw [e2] at h
        exact leaf_no h (by simp [e2]) (by simp [sndO])
      | some (q, s) =>
        rw [e2, PV0 q s e2] at h
        have h : RdE w (sndO (rp s)) op (f) (fstD ((eatB 40 s).bind rgB)) (q) (m) e w' := h
        obtain ⟨-, PV1⟩ := bind_rp (some s)
        match e3 : rp s with
        | none =>
          rw [e3] at h
          exact leaf_no h (by simp [e2, e3]) (by simp [sndO])
        | some (u, r) =>
          have PW := PV1 u r e3
          rw [e3] at h
          rw [show (eatB 40 s).bind rgB = ((some s).bind (eatB 40)).bind rgB from rfl, PW] at h
          have h : RdE w (some r) op (f) (u) (q) (m) e w' := h
          have := leaf_fin (k := m) h (by unfold wn; rw [if_neg (by omega)])
          simpa [e2, e3] using this
  exact (read_k8 hl (by omega) (by omega) m0 m3 rfl (eatC hL hl 32 (by omega) _) (regC hL hl _) (eatC hL hl 44 (by omega) _) (regC hL hl _) (eatC hL hl 44 (by omega) _) (plcC hL hl _)).mono fun e w' h => KEY e w' h
end Go.Proofs.YtkdghgiajifbdaaDoor.As
