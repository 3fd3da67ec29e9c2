/-
  Hs, Hc, MemWalks: texts of ours that lie in one file.
-/
import Derived.Test.YtchllaeembmioaaGreatDoorR01
import Derived.Test.YtchllaeembmioaaGreatDoorR02
import Derived.Deep.RegionLaw
set_option linter.unusedVariables false
set_option linter.unusedSimpArgs false
set_option maxHeartbeats 8000000
set_option maxRecDepth 100000
namespace Go.Proofs.YtchllaeembmioaaGreatDoor.Hh
open Mm Wd

def opn (op : Int) : Int := if op = 19 then 28 else if op = 20 then 31 else if op = 21 then 32 else if op = 22 then 33 else if op = 23 then 36 else if op = 24 then 37 else if op = 25 then 30 else if op = 26 then 34 else 35
structure Ev where
  h : Hv
  m : List UInt8
  out : List Int
  sto : List (Int × Int)
  res : Option Int
def efLoad (h : Hv) (l : List UInt8) (op at' : Int) : Ev := if ldOk l op at' = true then ⟨h, l, [], [], some (ldV l op at')⟩ else ⟨h.trap 3, l, [], [], none⟩
def efStore (h : Hv) (l : List UInt8) (op at' b : Int) : Ev := if stOk l op at' = true then ⟨h, stL l op at' b, [], [(at', (ssz op : Nat))], none⟩ else ⟨h.trap 4, l, [], [], none⟩
def efLr (h : Hv) (l : List UInt8) (a : Int) : Ev := if ldOk l 13 a = true then ⟨h.hold true a, l, [], [], some (ldV l 13 a)⟩ else ⟨h.trap 3, l, [], [], none⟩
def efSc (h : Hv) (l : List UInt8) (a b : Int) : Ev := if ldOk l 13 a = true then (if h.held = true ∧ h.heldAt = a then ⟨h.hold false 0, stL l 18 a b, [], [(a, 4)], some 0⟩ else ⟨h.hold false 0, l, [], [], some 1⟩) else ⟨h.trap 4, l, [], [], none⟩
def efAmo (h : Hv) (l : List UInt8) (op a b : Int) : Ev := if ldOk l 13 a = true then ⟨h, stL l 18 a (amo op (ldV l 13 a) b), [], [(a, 4)], some (ldV l 13 a)⟩ else ⟨h.trap 4, l, [], [], none⟩
def efAtom (h : Hv) (l : List UInt8) (op a b : Int) : Ev := if op = 46 then efLr h l a else if op = 47 then efSc h l a b else efAmo h l op a b
def efCall (h : Hv) (l : List UInt8) : Ev := if rg h 17 = 0 then ⟨h.halt, l, [], [], none⟩ else if rg h 17 = 1 then ⟨h, l, [rg h 10], [], none⟩ else ⟨h.trap 5, l, [], [], none⟩
def eff (h : Hv) (l : List UInt8) (op a b n : Int) : Ev :=
  if op = 1 then ⟨h, l, [], [], some n⟩ else if op = 2 then ⟨h, l, [], [], some (lo (h.pc + n))⟩ else if op = 3 ∨ op = 4 then ⟨h, l, [], [], some (lo (h.pc + 4))⟩
  else if 11 ≤ op ∧ op ≤ 15 then efLoad h l op (lo (a + n)) else if 16 ≤ op ∧ op ≤ 18 then efStore h l op (lo (a + n)) b
  else if 19 ≤ op ∧ op ≤ 27 then ⟨h, l, [], [], some (alu (opn op) a n)⟩ else if 28 ≤ op ∧ op ≤ 45 then ⟨h, l, [], [], some (alu op a b)⟩
  else if 46 ≤ op ∧ op ≤ 56 then efAtom h l op a b else if op = 58 then efCall h l else if op = 59 then ⟨h.trap 6, l, [], [], none⟩ else ⟨h, l, [], [], none⟩
def nxt (h : Hv) (op a b n : Int) : Int := if op = 4 then lo (a + n) - lo (a + n) % 2 else if op = 3 ∨ holds op a b = true then lo (h.pc + n) else lo (h.pc + 4)
structure Sv where
  h : Hv
  m : List UInt8
  out : List Int
  sto : List (Int × Int)
def Hv.put (h : Hv) (rd : Nat) : Option Int → Hv
  | some x => h.set rd x
  | none => h
def Hv.on (h : Hv) (x : Int) : Hv := if h.state = 0 then h.go x else h
def done (e : Ev) (rd : Nat) (nx : Int) : Sv := ⟨(e.h.put rd e.res).on nx, e.m, e.out, e.sto⟩
def ins (h : Hv) (l : List UInt8) (op rd r1 r2 im : Int) : Sv :=
  done (eff h l op (rg h r1.toNat) (rg h r2.toNat) (lo im)) rd.toNat (nxt h op (rg h r1.toNat) (rg h r2.toNat) (lo im))
def insW (h : Hv) (l : List UInt8) (x : Int) : Sv :=
  if Dc.dop x = 0 then ⟨h.trap 2, l, [], []⟩ else ins h l (Dc.dop x) (Dc.rdF (Dc.frm (Dc.dop x)) x) (Dc.rs1F (Dc.frm (Dc.dop x)) x) (Dc.rs2F (Dc.frm (Dc.dop x)) x) (Dc.immF (Dc.frm (Dc.dop x)) x)
def stp (h : Hv) (l : List UInt8) : Sv := if ldOk l 13 h.pc = true then insW h l (ldV l 13 h.pc) else ⟨h.trap 1, l, [], []⟩
def may (h : Hv) : Bool := decide (rg h 0 = 0 ∧ (h.held = false → h.heldAt = 0) ∧ (((h.state = 0 ∨ h.state = 1) ∧ h.cause = 0) ∨ (h.state = 2 ∧ 1 ≤ h.cause ∧ h.cause ≤ 6)))
end Go.Proofs.YtchllaeembmioaaGreatDoor.Hh
namespace Go.Proofs.YtchllaeembmioaaGreatDoor.Hc
open Go.ChangeShapes Go.WideShapes Go.ChangeAt Go.RowKit Mm Hh

structure Cv where
  h : Hv
  m : Value
  out : Value
  sto : Value
def cA (c : Cv) : Array Value := (hL c.h ++ [c.m, c.out, c.sto]).toArray
theorem cA_size {c : Cv} (o : c.h.Ok) : (cA c).size = 40 := by simp [cA, hL_len o]
theorem cA_get {c : Cv} (o : c.h.Ok) {i : Nat} (hi : i < 37) : (cA c)[i]? = (hL c.h)[i]? := by
  have := hL_len o
  unfold cA
  rw [List.getElem?_toArray, List.getElem?_append_left (by omega)]
theorem cA_fld {c : Cv} (o : c.h.Ok) (j : Nat) : (cA c)[37 + j]? = [c.m, c.out, c.sto][j]? := by
  unfold cA
  rw [List.getElem?_toArray, List.getElem?_append_right (by simp [hL_len o])]
  simp [hL_len o]
theorem cA_set {c : Cv} (o : c.h.Ok) {i : Nat} (hi : i < 37) {v : Value} {h' : Hv} (e : (hL c.h).set i v = hL h') : (cA c).setIfInBounds i v = cA { c with h := h' } := by
  have := hL_len o
  unfold cA
  simp only [List.setIfInBounds_toArray]
  rw [List.set_append_left _ _ (by omega), e]
theorem cA_setM {c : Cv} (o : c.h.Ok) (v : Value) : (cA c).setIfInBounds 37 v = cA { c with m := v } := by
  have := hL_len o
  unfold cA
  simp only [List.setIfInBounds_toArray]
  rw [List.set_append_right _ _ (by omega), this]
  rfl
theorem cA_setO {c : Cv} (o : c.h.Ok) (v : Value) : (cA c).setIfInBounds 38 v = cA { c with out := v } := by
  have := hL_len o
  unfold cA
  simp only [List.setIfInBounds_toArray]
  rw [List.set_append_right _ _ (by omega), this]
  rfl
theorem cA_setS {c : Cv} (o : c.h.Ok) (v : Value) : (cA c).setIfInBounds 39 v = cA { c with sto := v } := by
  have := hL_len o
  unfold cA
  simp only [List.setIfInBounds_toArray]
  rw [List.set_append_right _ _ (by omega), this]
  rfl

def Own (w : World) (base : Nat) (v : Value) (l : List UInt8) : Prop :=
  (v = .slice none 0 0 ∧ l = []) ∨ ∃ k cap, v = .slice (some ⟨k, 0, none⟩) l.length cap ∧ base ≤ k ∧ Row w k l
theorem Own.mem {w : World} {base : Nat} {v : Value} {l : List UInt8} (h : Own w base v l) : ∃ ao cap, v = .slice ao l.length cap ∧ Mem w ao l.length l := by
  rcases h with ⟨rfl, rfl⟩ | ⟨k, cap, rfl, _, R⟩
  · exact ⟨none, 0, rfl, Mem.none w⟩
  · exact ⟨some ⟨k, 0, none⟩, cap, rfl, R.mem⟩
def rgs (ss : List (Int × Int)) : List Value := ss.flatMap fun p => [.int .u32 p.1, .int .u32 (Wd.lo (p.1 + p.2))]
theorem rgs_snoc (ss : List (Int × Int)) (p : Int × Int) : rgs (ss ++ [p]) = rgs ss ++ [.int .u32 p.1, .int .u32 (Wd.lo (p.1 + p.2))] := by
  simp [rgs]

structure Inv (w : World) (base g : Nat) (c : Cv) (l : List UInt8) (os : List Int) (ss : List (Int × Int)) : Prop where
  ok : c.h.Ok
  bg : base ≤ g
  core : w.heap[g]? = some (.cells (cA c) 115 (0, 0))
  mem : Own w 0 c.m l
  out : w.ownsRow base 42 1 c.out os.length (os.map (Value.int .u32))
  sto : w.ownsRow base 109 2 c.sto ss.length (rgs ss)
def In (w : World) (base g : Nat) (h : Hv) (l : List UInt8) (os : List Int) (ss : List (Int × Int)) : Prop := ∃ c : Cv, c.h = h ∧ Inv w base g c l os ss

theorem Own.to {w w' : World} {base : Nat} {v : Value} {l : List UInt8} (h : Own w base v l) (e : ∀ (k : Nat) (o : Array Value) (f : Nat × Nat), w.heap[k]? = some (.cells o 5 f) → w'.heap[k]? = w.heap[k]?) : Own w' base v l := by
  rcases h with h | ⟨k, cap, hv, hb, rest, hr⟩
  · exact .inl h
  · exact .inr ⟨k, cap, hv, hb, rest, (e k _ _ hr).trans hr⟩
theorem owns_to {w w' : World} {base e n sz : Nat} {v : Value} {xs : List Value} (h : w.ownsRow base e sz v n xs) (q : ∀ (k : Nat) (o : Array Value) (f : Nat × Nat), w.heap[k]? = some (.cells o e f) → w'.heap[k]? = w.heap[k]?) : w'.ownsRow base e sz v n xs := by
  obtain ⟨h1, h2⟩ := h
  refine ⟨h1, ?_⟩
  rcases h2 with h2 | ⟨g, cap, cur, hv, hb, hg, r⟩
  · exact .inl h2
  · exact .inr ⟨g, cap, cur, hv, hb, (q g _ _ hg).trans hg, r⟩
theorem ne_of_types {w : World} {k g a b : Nat} {o p : Array Value} {f f' : Nat × Nat} (h : w.heap[k]? = some (.cells o a f)) (h' : w.heap[g]? = some (.cells p b f')) (hab : a ≠ b) : k ≠ g := by
  rintro rfl
  rw [h] at h'
  exact hab (by injection h' with h'; injection h')
def Ch (g : Nat) (w w' : World) : Prop := w.grownBy w' (some g)
theorem Ch.refl (g : Nat) (w : World) : Ch g w w := ⟨rfl, rfl, rfl, Nat.le_refl _, fun _ _ _ => rfl⟩
theorem Ch.trans {g : Nat} {a b c : World} (h : Ch g a b) (k : Ch g b c) : Ch g a c :=
  ⟨k.os.trans h.os, k.tape.trans h.tape, k.output.trans h.output, Nat.le_trans h.size k.size, fun i hi hn => (k.block i (Nat.lt_of_lt_of_le hi h.size) hn).trans (h.block i hi hn)⟩
theorem Ch.setCell {g : Nat} {a w : World} (h : Ch g a w) (o : Nat) (v : Value) : Ch g a (w.setCell ⟨g, o, none⟩ v) :=
  h.trans ⟨rfl, rfl, rfl, by simp [World.setCell], fun k hk hn => Below.heap_setCell _ _ _ _ (fun e => hn (by rw [e]))⟩
theorem Ch.gr {g : Nat} {a b c : World} (h : Ch g a b) (k : Gr b c) : Ch g a c :=
  h.trans ⟨k.os, k.tape, k.output, k.size, fun i hi _ => k.block i hi⟩
theorem Ch.below {g base : Nat} {w w' : World} (h : Ch g w w') (hg : base ≤ g) (hb : base ≤ w.heap.size) : Below base w w' :=
  (Below.refl base w).grown h hb (fun k e => by injection e with e; omega)
theorem Inv.toM {w w' : World} {base g : Nat} {c c' : Cv} {l l' : List UInt8} {os : List Int} {ss : List (Int × Int)} (I : Inv w base g c l os ss) (q : Ch g w w') (hc : w'.heap[g]? = some (.cells (cA c') 115 (0, 0)))
    (ok : c'.h.Ok) (em : Own w' 0 c'.m l') (eo : c'.out = c.out) (es : c'.sto = c.sto) : Inv w' base g c' l' os ss := by
  have st : ∀ t : Nat, t ≠ 115 → ∀ (k : Nat) (o : Array Value) (f : Nat × Nat), w.heap[k]? = some (.cells o t f) → w'.heap[k]? = w.heap[k]? := fun t ht k o f hk =>
    q.block k (Array.getElem?_eq_some_iff.1 hk).1 (fun e => ne_of_types hk I.core ht (by injection e))
  refine ⟨ok, I.bg, hc, em, ?_, ?_⟩
  · rw [eo]; exact owns_to I.out (st _ (by decide))
  · rw [es]; exact owns_to I.sto (st _ (by decide))
theorem Inv.to {w w' : World} {base g : Nat} {c c' : Cv} {l : List UInt8} {os : List Int} {ss : List (Int × Int)} (I : Inv w base g c l os ss) (q : Ch g w w') (hc : w'.heap[g]? = some (.cells (cA c') 115 (0, 0)))
    (ok : c'.h.Ok) (em : c'.m = c.m) (eo : c'.out = c.out) (es : c'.sto = c.sto) : Inv w' base g c' l os ss := by
  have st : ∀ t : Nat, t ≠ 115 → ∀ (k : Nat) (o : Array Value) (f : Nat × Nat), w.heap[k]? = some (.cells o t f) → w'.heap[k]? = w.heap[k]? := fun t ht k o f hk =>
    q.block k (Array.getElem?_eq_some_iff.1 hk).1 (fun e => ne_of_types hk I.core ht (by injection e))
  exact I.toM q hc ok (by rw [em]; exact I.mem.to (st _ (by decide))) eo es
theorem Inv.of {w w' : World} {base g : Nat} {c : Cv} {l : List UInt8} {os : List Int} {ss : List (Int × Int)} (I : Inv w base g c l os ss) (q : Gr w w') : Inv w' base g c l os ss :=
  I.to ((Ch.refl g w).gr q) ((q.block g (Array.getElem?_eq_some_iff.1 I.core).1).trans I.core) I.ok rfl rfl rfl
theorem In.of {w w' : World} {base g : Nat} {h : Hv} {l : List UInt8} {os : List Int} {ss : List (Int × Int)} (I : In w base g h l os ss) (q : Gr w w') : In w' base g h l os ss := by
  obtain ⟨c, e, I⟩ := I
  exact ⟨c, e, I.of q⟩
theorem Inv.lt {w : World} {base g : Nat} {c : Cv} {l : List UInt8} {os : List Int} {ss : List (Int × Int)} (I : Inv w base g c l os ss) : g < w.heap.size := (Array.getElem?_eq_some_iff.1 I.core).1
theorem Inv.hcell {w : World} {base g : Nat} {c : Cv} {l : List UInt8} {os : List Int} {ss : List (Int × Int)} (I : Inv w base g c l os ss) {i : Nat} (hi : i < 37) : w.cell? ⟨g, i, none⟩ = (hL c.h)[i]? :=
  (cell_of_row _ _ _ _ _ _ I.core).trans (cA_get I.ok hi)
theorem Inv.fcell {w : World} {base g : Nat} {c : Cv} {l : List UInt8} {os : List Int} {ss : List (Int × Int)} (I : Inv w base g c l os ss) (j : Nat) : w.cell? ⟨g, 37 + j, none⟩ = [c.m, c.out, c.sto][j]? :=
  (cell_of_row _ _ _ _ _ _ I.core).trans (cA_fld I.ok j)
theorem Inv.reg {w : World} {base g : Nat} {c : Cv} {l : List UInt8} {os : List Int} {ss : List (Int × Int)} (I : Inv w base g c l os ss) {i : Nat} (hi : i < 32) : w.cell? ⟨g, i, none⟩ = some (.int .u32 (rg c.h i)) :=
  (I.hcell (by omega)).trans (hL_reg I.ok hi)
theorem Inv.fz {w : World} {base g : Nat} {c : Cv} {l : List UInt8} {os : List Int} {ss : List (Int × Int)} (I : Inv w base g c l os ss) (j : Nat) : w.frozen? ⟨g, j, none⟩ = false := frozen_of_row _ _ j _ _ I.core
theorem Inv.set {w : World} {base g : Nat} {c : Cv} {l : List UInt8} {os : List Int} {ss : List (Int × Int)} (I : Inv w base g c l os ss) {i : Nat} (hi : i < 37) {v : Value} {h' : Hv} (e : (hL c.h).set i v = hL h') (ok : h'.Ok) :
    Inv (w.setCell ⟨g, i, none⟩ v) base g { c with h := h' } l os ss :=
  I.to ((Ch.refl g w).setCell i v) (by rw [heap_setCell_same _ _ _ _ _ _ I.core, cA_set I.ok hi e]) ok rfl rfl rfl
theorem Inv.inn {w : World} {base g : Nat} {c : Cv} {l : List UInt8} {os : List Int} {ss : List (Int × Int)} (I : Inv w base g c l os ss) : In w base g c.h l os ss := ⟨c, rfl, I⟩
theorem Inv.base_le {w : World} {base g : Nat} {c : Cv} {l : List UInt8} {os : List Int} {ss : List (Int × Int)} (I : Inv w base g c l os ss) : base ≤ w.heap.size := Nat.le_trans I.bg (Nat.le_of_lt I.lt)
structure Fr (base : Nat) (w w' : World) : Prop where
  below : Below base w w'
  keep : ∀ (k : Nat) (o : Array Value) (t : Nat) (f : Nat × Nat), w.heap[k]? = some (.cells o t f) → t ≠ 115 → t ≠ 42 → t ≠ 109 → w'.heap[k]? = w.heap[k]?
theorem Fr.refl (base : Nat) (w : World) : Fr base w w := ⟨Below.refl _ _, fun _ _ _ _ _ _ _ _ => rfl⟩
theorem Fr.trans {base : Nat} {a b c : World} (h : Fr base a b) (q : Fr base b c) : Fr base a c :=
  ⟨h.below.trans q.below, fun k o t f e n1 n2 n3 => by
    have e1 := h.keep k o t f e n1 n2 n3
    exact (q.keep k o t f (e1.trans e) n1 n2 n3).trans e1⟩
theorem Fr.ofGr {base : Nat} {w w' : World} (h : Gr w w') (hb : base ≤ w.heap.size) : Fr base w w' :=
  ⟨Below.mono h hb, fun k o t f e _ _ _ => h.block k (Array.getElem?_eq_some_iff.1 e).1⟩
theorem In.below {w w' : World} {base g : Nat} {h : Hv} {l : List UInt8} {os : List Int} {ss : List (Int × Int)} (I : In w base g h l os ss) (q : Ch g w w') : Fr base w w' := by
  obtain ⟨c, _, I⟩ := I
  exact ⟨q.below I.bg I.base_le, fun k o t f e n1 _ _ => q.block k (Array.getElem?_eq_some_iff.1 e).1 (fun q => ne_of_types e I.core n1 (by injection q))⟩
theorem Inv.sto_grown {w W w' : World} {base g n : Nat} {c : Cv} {l : List UInt8} {os : List Int} {ss ss' : List (Int × Int)} {v : Value} (I : Inv w base g c l os ss) (G : Gr w W) (q : W.grownBy w' c.sto.ownBlock) (hn : ss'.length = n) (ho : w'.ownsRow base 109 2 v n (rgs ss')) :
    w'.cell? ⟨g, 39, none⟩ = some c.sto ∧ w'.frozen? ⟨g, 39, none⟩ = false ∧ Inv (w'.setCell ⟨g, 39, none⟩ v) base g { c with sto := v } l os ss' ∧ Fr base w (w'.setCell ⟨g, 39, none⟩ v) := by
  subst hn
  have I1 := I.of G
  have st : ∀ t : Nat, t ≠ 109 → ∀ (k : Nat) (o : Array Value) (f : Nat × Nat), W.heap[k]? = some (.cells o t f) → w'.heap[k]? = W.heap[k]? := fun t ht k o f hk =>
    q.block k (Array.getElem?_eq_some_iff.1 hk).1 (fun e => by
      rcases I1.sto.2 with ⟨h0, _⟩ | ⟨g', cap, cur, hv, _, hg, _⟩
      · rw [h0] at e; cases e
      · rw [hv] at e
        injection e with e
        exact ne_of_types hk hg ht e)
  have hb : ∀ k, c.sto.ownBlock = some k → base ≤ k := fun k e => (I1.sto.lt k e).1
  have hcore := (st _ (by decide) g _ _ I1.core).trans I1.core
  have ne : ∀ t : Nat, t ≠ 115 → ∀ (k : Nat) (o : Array Value) (f : Nat × Nat), w'.heap[k]? = some (.cells o t f) → (w'.setCell ⟨g, 39, none⟩ v).heap[k]? = w'.heap[k]? := fun t ht k o f hk =>
    heap_setCell_other _ _ _ _ (by exact ne_of_types hk hcore ht)
  refine ⟨(cell_of_row _ _ _ _ _ _ hcore).trans (cA_fld I.ok 2), frozen_of_row _ _ _ _ _ hcore, ⟨I.ok, I.bg, ?_, ?_, ?_, ?_⟩, ?_⟩
  · rw [heap_setCell_same _ _ _ _ _ _ hcore, cA_setS I.ok]
  · exact (I1.mem.to (st _ (by decide))).to (ne _ (by decide))
  · exact owns_to (owns_to I1.out (st _ (by decide))) (ne _ (by decide))
  · exact owns_to ho (ne _ (by decide))
  · refine ⟨Below.setCell ((Below.mono G I.base_le).grown q I1.base_le hb) (by exact I.bg) _, fun k o t f e n1 n2 n3 => ?_⟩
    have e1 := (Array.getElem?_eq_some_iff.1 e).1
    have e2 := (G.block k e1).trans e
    have e3 := (st _ n3 k _ _ e2).trans e2
    exact ((ne _ n1 k _ _ e3).trans e3).trans e.symm
theorem Inv.out_grown {w W w' : World} {base g n : Nat} {c : Cv} {l : List UInt8} {os os' : List Int} {ss : List (Int × Int)} {v : Value} (I : Inv w base g c l os ss) (G : Gr w W) (q : W.grownBy w' c.out.ownBlock) (hn : os'.length = n) (ho : w'.ownsRow base 42 1 v n (os'.map (Value.int .u32))) :
    w'.cell? ⟨g, 38, none⟩ = some c.out ∧ w'.frozen? ⟨g, 38, none⟩ = false ∧ Inv (w'.setCell ⟨g, 38, none⟩ v) base g { c with out := v } l os' ss ∧ Fr base w (w'.setCell ⟨g, 38, none⟩ v) := by
  subst hn
  have I1 := I.of G
  have st : ∀ t : Nat, t ≠ 42 → ∀ (k : Nat) (o : Array Value) (f : Nat × Nat), W.heap[k]? = some (.cells o t f) → w'.heap[k]? = W.heap[k]? := fun t ht k o f hk =>
    q.block k (Array.getElem?_eq_some_iff.1 hk).1 (fun e => by
      rcases I1.out.2 with ⟨h0, _⟩ | ⟨g', cap, cur, hv, _, hg, _⟩
      · rw [h0] at e; cases e
      · rw [hv] at e
        injection e with e
        exact ne_of_types hk hg ht e)
  have hb : ∀ k, c.out.ownBlock = some k → base ≤ k := fun k e => (I1.out.lt k e).1
  have hcore := (st _ (by decide) g _ _ I1.core).trans I1.core
  have ne : ∀ t : Nat, t ≠ 115 → ∀ (k : Nat) (o : Array Value) (f : Nat × Nat), w'.heap[k]? = some (.cells o t f) → (w'.setCell ⟨g, 38, none⟩ v).heap[k]? = w'.heap[k]? := fun t ht k o f hk =>
    heap_setCell_other _ _ _ _ (by exact ne_of_types hk hcore ht)
  refine ⟨(cell_of_row _ _ _ _ _ _ hcore).trans (cA_fld I.ok 1), frozen_of_row _ _ _ _ _ hcore, ⟨I.ok, I.bg, ?_, ?_, ?_, ?_⟩, ?_⟩
  · rw [heap_setCell_same _ _ _ _ _ _ hcore, cA_setO I.ok]
  · exact (I1.mem.to (st _ (by decide))).to (ne _ (by decide))
  · exact owns_to ho (ne _ (by decide))
  · exact owns_to (owns_to I1.sto (st _ (by decide))) (ne _ (by decide))
  · refine ⟨Below.setCell ((Below.mono G I.base_le).grown q I1.base_le hb) (by exact I.bg) _, fun k o t f e n1 n2 n3 => ?_⟩
    have e1 := (Array.getElem?_eq_some_iff.1 e).1
    have e2 := (G.block k e1).trans e
    have e3 := (st _ n2 k _ _ e2).trans e2
    exact ((ne _ n1 k _ _ e3).trans e3).trans e.symm
theorem Inv.stored {w w1 : World} {base g n : Nat} {c : Cv} {l k : List UInt8} {os : List Int} {ss : List (Int × Int)} (I : Inv w base g c l os ss) (G : Gr w w1) (R : Row w1 w.heap.size k) (hk : k.length = n) :
    Inv (w1.setCell ⟨g, 37, none⟩ (.slice (some ⟨w.heap.size, 0, none⟩) n n)) base g { c with m := .slice (some ⟨w.heap.size, 0, none⟩) n n } k os ss := by
  have I1 := I.of G
  obtain ⟨rest, hr⟩ := R
  refine I1.toM ((Ch.refl g w1).setCell _ _) (by rw [heap_setCell_same _ _ _ _ _ _ I1.core, cA_setM I.ok]) I.ok (.inr ⟨w.heap.size, n, by rw [hk], Nat.zero_le _, rest, ?_⟩) rfl rfl
  rw [heap_setCell_other _ _ _ _ (by exact ne_of_types hr I1.core (by decide))]
  exact hr
end Go.Proofs.YtchllaeembmioaaGreatDoor.Hc
namespace Go.Proofs.YtchllaeembmioaaGreatDoor.Mm
open Go.ChangeShapes Go.WideShapes Go.ChangeAt Go.RowKit

theorem loadSize_any (op : Int) (w : World) : Calls Tryz.prog 103 #[.int .i64 op] w fun e w' => e = .returned (.int .u32 (lsz op : Nat)) ∧ w' = w := by
  go_enter Tryz.func103, Tryz.ntmps103
  go_wp2
  all_goals
    go_ret
    refine ⟨ret_int ?_, rfl⟩
    simp only [beq_iff_eq, beq_eq_false_iff_ne, ne_eq] at *
    unfold lsz
    repeat' split
    all_goals omega
theorem storeSize_any (op : Int) (w : World) : Calls Tryz.prog 148 #[.int .i64 op] w fun e w' => e = .returned (.int .u32 (ssz op : Nat)) ∧ w' = w := by
  go_enter Tryz.func148, Tryz.ntmps148
  go_wp2
  all_goals
    go_ret
    refine ⟨ret_int ?_, rfl⟩
    simp only [beq_iff_eq, beq_eq_false_iff_ne, ne_eq] at *
    unfold ssz
    repeat' split
    all_goals omega
theorem there_any (ao : Option Addr) (n cap : Nat) (s : Nat) (a : Int) (w : World) (hn : n ≤ 140737488351232) (hs : s ≤ 4) (h0 : 0 ≤ a) (h1 : a < 4294967296) :
    Calls Tryz.prog 104 #[.slice ao n cap, .int .u32 (s : Nat), .int .u32 a] w fun e w' => e = .returned (.bool (thr n s a)) ∧ w' = w := by
  by_cases hs0 : s = 0
  · subst hs0
    go_enter Tryz.func104, Tryz.ntmps104
    go_wp2
    go_ret
    exact ⟨ret_bool (thr_f (by omega)), rfl⟩
  by_cases hm : a % (s : Int) = 0
  · by_cases hl : a + s ≤ n
    · go_enter Tryz.func104, Tryz.ntmps104
      go_wp2
      go_ret
      exact ⟨ret_bool (thr_t (by omega) hm hl), rfl⟩
    · go_enter Tryz.func104, Tryz.ntmps104
      go_wp2
      go_ret
      exact ⟨ret_bool (thr_f (by omega)), rfl⟩
  · go_enter Tryz.func104, Tryz.ntmps104
    go_wp2
    go_ret
    exact ⟨ret_bool (thr_f (by omega)), rfl⟩
theorem widened_any (op x : Int) (w : World) (h0 : 0 ≤ x) (h1 : x < 4294967296) (h8 : op = 11 → x < 256) (h16 : op = 12 → x < 65536) :
    Calls Tryz.prog 105 #[.int .i64 op, .int .u32 x] w fun e w' => e = .returned (.int .u32 (wide op x)) ∧ w' = w := by
  go_enter Tryz.func105, Tryz.ntmps105
  go_wp2
  all_goals
    go_ret
    refine ⟨ret_int ?_, rfl⟩
    simp only [beq_iff_eq, beq_eq_false_iff_ne, ne_eq] at *
    unfold wide
    first
      | (have hq : op = 11 := by assumption
         rw [wrap_i8 x h0 (h8 hq)]; simp [hq])
      | (have hq : op = 12 := by assumption
         rw [wrap_i16 x h0 (h16 hq)]; simp [hq])
      | (have hq : ¬ op = 11 := by assumption
         have hr : ¬ op = 12 := by assumption
         simp [hq, hr])
theorem Load_yes (b o n cap : Nat) (l : List UInt8) (op : Int) (a : Nat) (w : World) (hn : n ≤ 140737488351232) (hl : l.length = n) (ha : a < 4294967296)
    (hc : ∀ t, t < n → w.cell? ⟨b, o + t, none⟩ = some (.int .u8 (bv l t))) (hok : thr n (lsz op) (a : Int) = true) :
    Calls Tryz.prog 85 #[.slice (some ⟨b, o, none⟩) n cap, .int .i64 op, .int .u32 a] w fun e w' => e = .returned (.tuple #[.int .u32 (wide op (raw l a (lsz op))), .bool true]) ∧ w' = w := by
  have hs := lsz_le op
  have hk := hok
  simp only [thr, decide_eq_true_eq] at hk
  obtain ⟨k0, k1, k2⟩ := hk
  have hroom := lsz_room k1 ha k0
  go_enter Tryz.func85, Tryz.ntmps85
  go_wp2_with (first | (go_at_call 103; refine (loadSize_any _ _).mono ?_; rintro e w' ⟨rfl, rfl⟩) | (go_at_call 104; refine (there_any _ _ _ _ _ _ hn hs (by omega) (by omega)).mono ?_; rintro e w' ⟨rfl, rfl⟩))
  go_loop [9, 19] (fun x i => ∃ k : Nat, k ≤ lsz op ∧ i = .int .u32 k ∧ x = .int .u32 (raw l a k)) (fun _ i => lsz op - (intOf i).toNat)
  case atStart => exact ⟨0, Nat.zero_le _, rfl, rfl⟩
  case round =>
    obtain ⟨k, hk, rfl, rfl⟩ := hrel
    have rb := raw_bd l a k
    have bb := bv_bd l (a + k)
    by_cases hlt : k < lsz op
    · have hck := hc (a + k) (by omega)
      clear hc
      have hk4 : k < 4 := by omega
      have hw : (a + k) % 4294967296 = a + k := by omega
      have HR : Hid (bits .or .u32 (raw l a k) (bv l (a + k) * 2 ^ (8 * k) % 4294967296) = raw l a (k + 1)) := or_byte _ _ k hk4 rb.1 rb.2 bb.1 bb.2
      go_wp2
      go_round
      case rel => exact ⟨k + 1, by omega, by go_num, by rw [HR.out]⟩
      case measure => simp [intOf]; omega
    · obtain rfl : k = lsz op := by omega
      have rx := raw_cap l a op
      have HX : Hid (wide op (raw l a (lsz op)) = wide op (raw l a (lsz op))) := rfl
      go_wp2_with (go_at_call 105; refine (widened_any _ _ _ rb.1 rx.1 rx.2.1 rx.2.2).mono ?_; rintro e w' ⟨rfl, rfl⟩)
      go_ret2
      exact ⟨rfl, rfl⟩
theorem Load_no (ao : Option Addr) (n cap : Nat) (op a : Int) (w : World) (hn : n ≤ 140737488351232) (h0 : 0 ≤ a) (h1 : a < 4294967296) (hok : thr n (lsz op) a = false) :
    Calls Tryz.prog 85 #[.slice ao n cap, .int .i64 op, .int .u32 a] w fun e w' => e = .returned (.tuple #[.int .u32 0, .bool false]) ∧ w' = w := by
  have hs := lsz_le op
  go_enter Tryz.func85, Tryz.ntmps85
  go_wp2_with (first | (go_at_call 103; refine (loadSize_any _ _).mono ?_; rintro e w' ⟨rfl, rfl⟩) | (go_at_call 104; refine (there_any _ _ _ _ _ _ hn hs (by omega) (by omega)).mono ?_; rintro e w' ⟨rfl, rfl⟩))
  go_ret2
  exact ⟨rfl, rfl⟩
theorem Load_any {ao : Option Addr} {n : Nat} (cap : Nat) {l : List UInt8} (op a : Int) {w : World} (M : Mem w ao n l) (hn : n ≤ 140737488351232) (h0 : 0 ≤ a) (h1 : a < 4294967296) :
    Calls Tryz.prog 85 #[.slice ao n cap, .int .i64 op, .int .u32 a] w fun e w' => e = .returned (.tuple #[.int .u32 (ldV l op a), .bool (ldOk l op a)]) ∧ w' = w := by
  have hl := M.len
  cases hok : thr n (lsz op) a with
  | false =>
    have e1 : ldOk l op a = false := by unfold ldOk; rw [hl]; exact hok
    have e2 : ldV l op a = 0 := by unfold ldV; rw [e1]; rfl
    rw [e1, e2]
    exact Load_no ao n cap op a w hn h0 h1 hok
  | true =>
    have e1 : ldOk l op a = true := by unfold ldOk; rw [hl]; exact hok
    have e2 : ldV l op a = wide op (raw l a.toNat (lsz op)) := by unfold ldV; rw [e1]; rfl
    rw [e1, e2]
    obtain ⟨b, o, rfl, _, hc⟩ := M.spot (thr_pos hok h0)
    obtain ⟨a, rfl⟩ := Int.eq_ofNat_of_zero_le h0
    exact Load_yes b o n cap l op a w hn hl (by omega) hc hok
theorem Store_no (ao : Option Addr) (n cap : Nat) (op a x : Int) (w : World) (hn : n ≤ 140737488351232) (h0 : 0 ≤ a) (h1 : a < 4294967296) (hok : thr n (ssz op) a = false) :
    Calls Tryz.prog 130 #[.slice ao n cap, .int .i64 op, .int .u32 a, .int .u32 x] w fun e w' => e = .returned (.tuple #[.slice none 0 0, .bool false]) ∧ w' = w := by
  have hs := ssz_le op
  go_enter Tryz.func130, Tryz.ntmps130
  go_wp2_with (first | (go_at_call 148; refine (storeSize_any _ _).mono ?_; rintro e w' ⟨rfl, rfl⟩) | (go_at_call 104; refine (there_any _ _ _ _ _ _ hn hs (by omega) (by omega)).mono ?_; rintro e w' ⟨rfl, rfl⟩))
  go_ret2
  exact ⟨rfl, rfl⟩
theorem Store_yes (b o n cap : Nat) (l : List UInt8) (op x : Int) (a : Nat) (w : World) (hn : n ≤ 140737488351232) (hl : l.length = n) (ha : a < 4294967296) (hb : b < w.heap.size) (hx0 : 0 ≤ x) (hx1 : x < 4294967296)
    (hc : ∀ t, t < n → w.cell? ⟨b, o + t, none⟩ = some (.int .u8 (bv l t))) (hok : thr n (ssz op) (a : Int) = true) :
    Calls Tryz.prog 130 #[.slice (some ⟨b, o, none⟩) n cap, .int .i64 op, .int .u32 a, .int .u32 x] w fun e w' => e = .returned (.tuple #[.slice (some ⟨w.heap.size, 0, none⟩) n n, .bool true]) ∧ Row w' w.heap.size (put l a x (ssz op)) ∧ Gr w w' := by
  have hs := ssz_le op
  have hk := hok
  simp only [thr, decide_eq_true_eq] at hk
  obtain ⟨k0, k1, k2⟩ := hk
  have hroom := ssz_room k1 ha k0
  obtain ⟨i0, hi, hz0, hz1, hz2⟩ := info_parts info5
  have HC : Hid (∀ t, t < n → w.cell? ⟨b, o + t, none⟩ = some (.int .u8 (bv l t))) := hc
  clear hc
  go_enter Tryz.func130, Tryz.ntmps130
  go_wp2_with (first
    | (go_at_call 148; refine (storeSize_any _ _).mono ?_; rintro e w' ⟨rfl, rfl⟩)
    | (go_at_call 104; refine (there_any _ _ _ _ _ _ hn hs (by omega) (by omega)).mono ?_; rintro e w' ⟨rfl, rfl⟩)
    | (at_make; refine wpList_make_full _ rfl _ _ 22 rfl _ 5 i0 (.int .u8 0) 1 Tryz.underlying22 hi hz0 hz1 _ _ _ _ n rfl rfl rfl rfl (by rw [hz2]; omega) (by unfold maxLen; omega) (Nat.le_refl _) ?_; intro w0 hown0 hgrow0; obtain ⟨cur, hcl, hcg⟩ := made_row hown0; have B0 := (Gr.refl _).grown hgrow0 (fun k h => by cases h); clear hown0 hgrow0)
    | (refine wpList_copy_splice rfl (.tmp 23) (.tmp 24) 22 22 rfl 5 Tryz.underlying22 size1 _ _ _ _ _ _ rfl rfl _ 0 cur 5 hcg (bc l) (by rw [bc_len, hl]; simp) (fun _ => ⟨rfl, _, rfl, bc_src hl (fun t ht => (Gr.cell B0 _ (by exact hb)).trans (HC.out t ht))⟩) (by rw [bc_len, hl, hcl]; omega) (bc_one l) _ _ B0 (Nat.le_refl _) ?_; intro w2 HG2 hB2))
  have R0 : Row w2 w'.heap.size l := ⟨[], by rw [List.append_nil]; have := HG2.out; rwa [splice_all (by rw [bc_len, hl, hcl])] at this⟩
  clear HG2 hcg hcl B0 HC hi hz0 hz1 hz2
  go_loopw [27] (fun i wr => ∃ k : Nat, k ≤ ssz op ∧ i = .int .u32 k ∧ Row wr w'.heap.size (put l a x k) ∧ Gr w' wr) (fun i _ => ssz op - (intOf i).toNat)
  case atStart => exact ⟨0, Nat.zero_le _, rfl, R0, hB2⟩
  case round =>
    obtain ⟨k, hk, rfl, R, G⟩ := hrel
    by_cases hlt : k < ssz op
    · have hp := len_put l a x k
      have hck := R.cell (t := a + k) (by omega)
      have hfk := R.frozen (a + k)
      have hw : (a + k) % 4294967296 = a + k := by omega
      have RS := R.set (t := a + k) (by omega) (x / 2 ^ (8 * k) % 256) (by omega) (by omega)
      rw [byte_eq x k hx0] at RS
      have HR : Hid (Row wr w'.heap.size (put l a x k)) := R
      have HG : Hid (Gr w' wr) := G
      have HS : Hid (Row (wr.setCell ⟨w'.heap.size, a + k, none⟩ (.int .u8 (x / 256 ^ k % 256))) w'.heap.size (put l a x (k + 1))) := RS
      have HB : Hid (x / 2 ^ (8 * k) % 256 = x / 256 ^ k % 256) := byte_eq x k hx0
      clear R G RS R0 hB2 hp
      go_wp2
      go_roundw
      case rel => exact ⟨k + 1, by omega, by go_num, by have := HS.out; rw [← HB.out] at this; exact this, HG.out.setCell (Nat.le_refl _) _⟩
      case measure => simp [intOf]; omega
    · obtain rfl : k = ssz op := by omega
      have HR : Hid (Row wr w'.heap.size (put l a x (ssz op))) := R
      have HG : Hid (Gr w' wr) := G
      clear R G R0 hB2
      go_wp2
      go_ret2
      exact ⟨rfl, HR.out, HG.out⟩
theorem Store_new {ao : Option Addr} {n : Nat} (cap : Nat) {l : List UInt8} (op a x : Int) {w : World} (M : Mem w ao n l) (hn : n ≤ 140737488351232) (h0 : 0 ≤ a) (h1 : a < 4294967296) (hx0 : 0 ≤ x) (hx1 : x < 4294967296) :
    Calls Tryz.prog 130 #[.slice ao n cap, .int .i64 op, .int .u32 a, .int .u32 x] w fun e w' =>
      ∃ ao' n' cap', e = .returned (.tuple #[.slice ao' n' cap', .bool (stOk l op a)]) ∧ Mem w' ao' n' (stL l op a x) ∧ Gr w w' ∧ ∀ ad, ao' = some ad → w.heap.size ≤ ad.block := by
  have hl := M.len
  cases hok : thr n (ssz op) a with
  | false =>
    have e1 : stOk l op a = false := by unfold stOk; rw [hl]; exact hok
    have e2 : stL l op a x = [] := by unfold stL; rw [e1]; rfl
    rw [e1, e2]
    refine (Store_no ao n cap op a x w hn h0 h1 hok).mono ?_
    rintro e w' ⟨rfl, rfl⟩
    exact ⟨none, 0, 0, rfl, Mem.none _, Gr.refl _, fun ad h => by cases h⟩
  | true =>
    have e1 : stOk l op a = true := by unfold stOk; rw [hl]; exact hok
    have e2 : stL l op a x = put l a.toNat x (ssz op) := by unfold stL; rw [e1]; rfl
    rw [e1, e2]
    obtain ⟨b, o, rfl, hb, hc⟩ := M.spot (thr_pos hok h0)
    obtain ⟨a, rfl⟩ := Int.eq_ofNat_of_zero_le h0
    refine (Store_yes b o n cap l op x a w hn hl (by omega) hb hx0 hx1 hc hok).mono ?_
    rintro e w' ⟨rfl, R, G⟩
    refine ⟨_, _, _, rfl, ?_, G, fun ad h => by cases h; exact Nat.le_refl _⟩
    have := R.mem
    rwa [len_put, hl] at this
theorem Store_any {ao : Option Addr} {n : Nat} (cap : Nat) {l : List UInt8} (op a x : Int) {w : World} (M : Mem w ao n l) (hn : n ≤ 140737488351232) (h0 : 0 ≤ a) (h1 : a < 4294967296) (hx0 : 0 ≤ x) (hx1 : x < 4294967296) :
    Calls Tryz.prog 130 #[.slice ao n cap, .int .i64 op, .int .u32 a, .int .u32 x] w fun e w' =>
      ∃ ao' n' cap', e = .returned (.tuple #[.slice ao' n' cap', .bool (stOk l op a)]) ∧ Mem w' ao' n' (stL l op a x) ∧ Gr w w' := by
  refine (Store_new cap op a x M hn h0 h1 hx0 hx1).mono ?_
  rintro e w' ⟨a1, n1, c1, rfl, M1, G1, _⟩
  exact ⟨a1, n1, c1, rfl, M1, G1⟩
end Go.Proofs.YtchllaeembmioaaGreatDoor.Mm
