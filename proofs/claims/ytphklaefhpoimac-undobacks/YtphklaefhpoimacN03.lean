/-
  Mb7, Uq, Mb8, Mb9, Ub1, Ur: texts of ours that lie in one file.
-/
import Derived.Test.YtphklaefhpoimacN02
import Derived.Laws.OwnMore
import Derived.Test.YtphklaefhpoimacN01
import Derived.Deep.RegionWith
/-
  append from whatever slice, nil or not; what a board keeps while its harts, its memory, what came out and its steps are set.
-/
namespace Go.Proofs.Ytphklaefhpoimac.Mc
open Go.ChangeShapes Go.WideShapes Go.ChangeAt Go.RowKit Mm Hh Hc
set_option linter.unusedVariables false
set_option linter.unusedSimpArgs false

variable {ty : Nat} {rs : List Value}
/-- The slice vx, nil or not, reads as m elements of sz cells: news. -/
def Src (w : World) (vx : Value) (m sz : Nat) (news : List Value) : Prop :=
  (vx = .slice none 0 0 ∧ m = 0 ∧ news = []) ∨ ∃ ad c, vx = .slice (some ad) m c ∧ news.length = m * sz ∧ ∀ j u, news[j]? = some u → w.cell? (ad.add j) = some u
theorem Src.own {w : World} {base e sz n : Nat} {v : Value} {xs : List Value} (h : w.ownsRow base e sz v n xs) : Src w v n sz xs := by
  obtain ⟨hl, h⟩ := h
  rcases h with ⟨rfl, rfl⟩ | ⟨g, cap, cur, rfl, _, hg, _, _, _, ht⟩
  · exact .inl ⟨rfl, rfl, List.eq_nil_of_length_eq_zero (by simpa using hl)⟩
  · refine .inr ⟨_, cap, rfl, hl, fun j u hj => ?_⟩
    rw [add_at, Nat.zero_add, cr hg]
    rw [← ht] at hj
    rw [List.getElem?_take] at hj
    split at hj
    · simpa using hj
    · cases hj
theorem Src.gr {w w' : World} {vx : Value} {m sz : Nat} {news : List Value} (h : Src w vx m sz news) (G : Gr w w') : Src w' vx m sz news := by
  rcases h with h | ⟨ad, c, e, hl, hc⟩
  · exact .inl h
  · exact .inr ⟨ad, c, e, hl, fun j u hj => (G.cell _ (World.block_lt_of_cell? w _ (hc j u hj))).trans (hc j u hj)⟩
section
variable {P : Program} {w : World} {base e size bytes n m : Nat} {i : TypeInfo} {z : Value} {t : TypeId}
theorem run_append_src (ty : TypeId) (h1 : P.underlying t = some (.slice e)) (h2 : P.info? e = some i) (h3 : i.zero = some z) (h4 : i.size = size) (h5 : i.bytes = bytes) (h6 : z.cells.size = size) (h7 : 0 < size)
    {v vx : Value} {olds news : List Value} (hown : w.ownsRow base e size v n olds) (hsrc : Src w vx m size news) (h1c : ∀ u ∈ news, u.oneCell' = true) (b1 : n + m ≤ maxLen) (b2 : (n + m) * bytes ≤ 140737488355328) (hbase : base ≤ w.heap.size) :
    ∃ v' w', (Builtin.append_ #[t, t] ty #[v, vx]).run P w = .ok v' w' ∧ w'.ownsRow base e size v' (n + m) (olds ++ news) ∧ w.grownBy w' v.ownBlock := by
  rcases hsrc with ⟨rfl, rfl, rfl⟩ | ⟨ad, c, rfl, hl, hc⟩
  · exact ⟨v, w, run_append_owned_none w base t ty e i size h1 h2 v n olds hown, by simpa using hown, ⟨rfl, rfl, rfl, Nat.le_refl _, fun _ _ _ => rfl⟩⟩
  · obtain ⟨v', w', hrun, r1, r2, _⟩ := run_append_own (P := P) w base t ty e i z size bytes h1 h2 h3 h4 h5 h6 h7 v n olds hown ad m c news hl hc h1c b1 b2 hbase
    exact ⟨v', w', hrun, r1, r2⟩
theorem step_append_src {ops : Array Oper} {o : Oper} {a : Act} {K : Act → World → Prop} {Q : Exit → Act → World → Prop} {E : Prop}
    (hg : o.guard = none) (s x : Operand) (hop : o.op = Op.call { callee := Callee.builtin Builtin.append, args := #[s, x], argTypes := #[t, t] })
    (h1 : P.underlying t = some (.slice e)) (h2 : P.info? e = some i) (h3 : i.zero = some z) (h4 : i.size = size) (h5 : i.bytes = bytes) (h6 : z.cells.size = size) (h7 : 0 < size)
    {v vx : Value} {olds news : List Value} (hs : a.eval s = v) (hx : a.eval x = vx) (hown : w.ownsRow base e size v n olds) (hsrc : Src w vx m size news) (h1c : ∀ u ∈ news, u.oneCell' = true) (b1 : n + m ≤ maxLen) (b2 : (n + m) * bytes ≤ 140737488355328) (hbase : base ≤ w.heap.size)
    (hK : ∀ v' w', w'.ownsRow base e size v' (n + m) (olds ++ news) → w.grownBy w' v.ownBlock → K (a.put o.dst v') w') :
    if Region.wanted o (yielded ops a.tmps) = true then Oper.wp P o a w K Q else E := by
  have hw : Region.wanted o (yielded ops a.tmps) = true := by simp [Region.wanted, hg]
  rw [if_pos hw]
  obtain ⟨v', w', hrun, r1, r2⟩ := run_append_src (P := P) o.type h1 h2 h3 h4 h5 h6 h7 hown hsrc h1c b1 b2 hbase
  unfold Oper.wp
  simp [execOp, hop, resolve, invoke, builtin, hs, hx, hrun, Result.andThen]
  exact hK v' w' r1 r2
theorem wpList_append_src {ops : Array Oper} {rest : List Oper} {o : Oper} {a : Act} {Q : Exit → Act → World → Prop}
    (hg : o.guard = none) (s x : Operand) (hop : o.op = Op.call { callee := Callee.builtin Builtin.append, args := #[s, x], argTypes := #[t, t] })
    (h1 : P.underlying t = some (.slice e)) (h2 : P.info? e = some i) (h3 : i.zero = some z) (h4 : i.size = size) (h5 : i.bytes = bytes) (h6 : z.cells.size = size) (h7 : 0 < size)
    {v vx : Value} {olds news : List Value} (hs : a.eval s = v) (hx : a.eval x = vx) (hown : w.ownsRow base e size v n olds) (hsrc : Src w vx m size news) (h1c : ∀ u ∈ news, u.oneCell' = true) (b1 : n + m ≤ maxLen) (b2 : (n + m) * bytes ≤ 140737488355328) (hbase : base ≤ w.heap.size)
    (hK : ∀ v' w', w'.ownsRow base e size v' (n + m) (olds ++ news) → w.grownBy w' v.ownBlock → wpList P ops Q rest (a.put o.dst v') w') : wpList P ops Q (o :: rest) a w := by
  refine wpList_plain hg fun K hk => ?_
  obtain ⟨v', w', hrun, r1, r2⟩ := run_append_src (P := P) o.type h1 h2 h3 h4 h5 h6 h7 hown hsrc h1c b1 b2 hbase
  unfold Oper.wp
  simp [execOp, hop, resolve, invoke, builtin, hs, hx, hrun, Result.andThen]
  exact hk _ _ (hK v' w' r1 r2)
end
theorem step_store_mid {P : Program} {ops : Array Oper} {o : Oper} {a : Act} {w : World} {K : Act → World → Prop} {Q : Exit → Act → World → Prop} {E : Prop} (hg : o.guard = none) (ty : TypeId) (x y : Operand) (ho : o.op = .store ty x y)
    (b j : Nat) (cells : Array Value) (hx : a.eval x = .pointer (some ⟨b, j, none⟩)) (hy : a.eval y = .agg cells) (ht : w.there b j cells.size) (hi : (P.info? ty).map (·.size) = some cells.size) (h1 : cells.all (·.oneCell') = true)
    (h : K (a.put o.dst undef) (w.setCells b j cells.toList)) : if Region.wanted o (yielded ops a.tmps) = true then Oper.wp P o a w K Q else E := by
  rw [if_pos (by simp [Region.wanted, hg])]
  exact wp_store_mid ty x y ho b j cells hx hy ht hi h1 h
theorem held_store_mid {P : Program} {md : Region.Mode} {ops : Array Oper} {Q : Exit → Act → World → Prop} {S : World → Prop} {fuel i : Nat} {listed : Array Bool} {o : Oper} {a : Act} {w : World} (hr : Region.ready md ops listed = [i]) (hoi : ops[i]? = some o) (hg : o.guard = none) (ty : TypeId) (x y : Operand) (ho : o.op = .store ty x y)
    (b j : Nat) (cells : Array Value) (hx : a.eval x = .pointer (some ⟨b, j, none⟩)) (hy : a.eval y = .agg cells) (ht : w.there b j cells.size) (hi : (P.info? ty).map (·.size) = some cells.size) (h1 : cells.all (·.oneCell') = true)
    (hS : S (w.setCells b j cells.toList)) (h : wpAnyH P md ops Q S fuel (listed.setIfInBounds i true) (a.put o.dst undef) (w.setCells b j cells.toList)) : wpAnyH P md ops Q S (fuel + 1) listed a w :=
  wpAnyH_ready hr (by simp) (AllReadyH.cons hoi (fun K hK => step_store_mid hg ty x y ho b j cells hx hy ht hi h1 (hK.out _ _ hS fun _ => h)) AllReadyH.nil)
theorem words_one (os : List Int) : ∀ u ∈ os.map (Value.int .u32), u.oneCell' = true := by
  intro u hu
  obtain ⟨b, _, rfl⟩ := List.mem_map.1 hu
  rfl
theorem infoW : (Try.prog.info? 36).map (fun i => (i.zero, i.size, i.bytes)) = some (some (Value.int .u32 0), 1, 4) := by kernel_rfl

/-- Only the harts' block has turned: what is of another type is as it was. -/
theorem ch_keep {w w' : World} {gh : Nat} {hs : List Hv} (R : HRow w gh hs) (q : Ch gh w w') {t : Nat} (ht : t ≠ 39) {k : Nat} {o : Array Value} {f : Nat × Nat} (hk : w.heap[k]? = some (.cells o t f)) : w'.heap[k]? = w.heap[k]? := by
  obtain ⟨rest, e⟩ := R.row
  exact q.block k (gs hk).1 (fun h => ne_of_types hk e ht (by injection h))
theorem Bw.ch {w w' : World} {base g gh hc : Nat} {M O : Value} {s : Sh} (B : Bw ty rs w base g M gh hc O s) (q : Ch gh w w') {hs : List Hv} (R : HRow w' gh hs) (hl : hs.length = s.hs.length) : Bw ty rs w' base g M gh hc O ⟨hs, s.m, s.out, s.steps⟩ :=
  ⟨B.t1, B.t2, B.t3, B.bg, by show w'.heap[g]? = some (.cells (M :: .slice (some ⟨gh, 0, none⟩) hs.length hc :: O :: .int .i64 s.steps :: rs).toArray _ _); rw [hl]; exact (ch_keep B.row q B.t3 B.blk).trans B.blk, B.mem.to fun k o f hk => ch_keep B.row q (by decide) hk, B.bh, R, owns_to B.out fun k o f hk => ch_keep B.row q (by decide) hk⟩
theorem Ch.ofGr {g : Nat} {w w' : World} (G : Gr w w') : Ch g w w' := (Ch.refl g w).gr G
theorem Ch.setCells {g : Nat} {a w : World} (h : Ch g a w) : ∀ (vs : List Value) (o : Nat), Ch g a (w.setCells g o vs)
  | [], o => h
  | v :: r, o => by rw [World.setCells]; exact Ch.setCells (h.setCell o v) r (o + 1)
theorem Bw.fz {w : World} {base g gh hc : Nat} {M O : Value} {s : Sh} (B : Bw ty rs w base g M gh hc O s) (i : Nat) : w.frozen? ⟨g, i, none⟩ = false := fzr B.blk
theorem Bw.base_le {w : World} {base g gh hc : Nat} {M O : Value} {s : Sh} (B : Bw ty rs w base g M gh hc O s) : base ≤ w.heap.size := Nat.le_trans B.bg (Nat.le_of_lt (gs B.blk).1)
/-- A cell of the board's own block set: what is of another type is as it was. -/
theorem bw_other {w : World} {base g gh hc : Nat} {M O : Value} {s : Sh} (B : Bw ty rs w base g M gh hc O s) (i : Nat) (v : Value) {t : Nat} (ht : t ≠ ty) {k : Nat} {o : Array Value} {f : Nat × Nat} (hk : w.heap[k]? = some (.cells o t f)) : (w.setCell ⟨g, i, none⟩ v).heap[k]? = w.heap[k]? :=
  hso (by exact ne_of_types hk B.blk ht)
theorem HRow.to {w w' : World} {g : Nat} {hs : List Hv} (r : HRow w g hs) (h : ∀ (k : Nat) (o : Array Value) (f : Nat × Nat), w.heap[k]? = some (.cells o 39 f) → w'.heap[k]? = w.heap[k]?) : HRow w' g hs := by
  obtain ⟨rest, e⟩ := r.row
  exact ⟨r.ok, rest, (h _ _ _ e).trans e⟩
theorem Bw.setM {w : World} {base g gh hc : Nat} {M O : Value} {s : Sh} (B : Bw ty rs w base g M gh hc O s) {M' : Value} {m' : List UInt8} (h : Own w 0 M' m') : Bw ty rs (w.setCell ⟨g, 0, none⟩ M') base g M' gh hc O ⟨s.hs, m', s.out, s.steps⟩ :=
  ⟨B.t1, B.t2, B.t3, B.bg, by rw [hss B.blk]; simp, h.to fun k o f hk => bw_other B _ _ B.t1.symm hk, B.bh, B.row.to fun k o f hk => bw_other B _ _ B.t3.symm hk, owns_to B.out fun k o f hk => bw_other B _ _ B.t2.symm hk⟩
theorem Bw.setN {w : World} {base g gh hc : Nat} {M O : Value} {s : Sh} (B : Bw ty rs w base g M gh hc O s) (n' : Nat) : Bw ty rs (w.setCell ⟨g, 3, none⟩ (.int .i64 n')) base g M gh hc O ⟨s.hs, s.m, s.out, n'⟩ :=
  ⟨B.t1, B.t2, B.t3, B.bg, by rw [hss B.blk]; simp, B.mem.to fun k o f hk => bw_other B _ _ B.t1.symm hk, B.bh, B.row.to fun k o f hk => bw_other B _ _ B.t3.symm hk, owns_to B.out fun k o f hk => bw_other B _ _ B.t2.symm hk⟩
/-- A cell behind the board set. -/
theorem Bw.setR {w : World} {base g gh hc : Nat} {M O : Value} {s : Sh} (B : Bw ty rs w base g M gh hc O s) (i : Nat) (v : Value) : Bw ty (rs.set i v) (w.setCell ⟨g, 4 + i, none⟩ v) base g M gh hc O s :=
  ⟨B.t1, B.t2, B.t3, B.bg, by rw [hss B.blk, List.setIfInBounds_toArray, Nat.add_comm]; rfl, B.mem.to fun k o f hk => bw_other B _ _ B.t1.symm hk, B.bh, B.row.to fun k o f hk => bw_other B _ _ B.t3.symm hk, owns_to B.out fun k o f hk => bw_other B _ _ B.t2.symm hk⟩
/-- What a board's method leaves: of what lay below 'base' nothing has turned, nor any block but those of type ty, of harts or of words. -/
structure Fe (ty : Nat) (base : Nat) (w w' : World) : Prop where
  below : Below base w w'
  keep : ∀ (k : Nat) (o : Obj), w.heap[k]? = some o → (∀ q f, ¬ o = .cells q ty f) → (∀ q f, ¬ o = .cells q 39 f) → (∀ q f, ¬ o = .cells q 36 f) → w'.heap[k]? = some o
theorem Fe.refl (base : Nat) (w : World) : Fe ty base w w := ⟨Below.refl _ _, fun _ _ h _ _ _ => h⟩
theorem Fe.trans {base : Nat} {a b c : World} (h : Fe ty base a b) (k : Fe ty base b c) : Fe ty base a c := ⟨h.below.trans k.below, fun i o e t1 t2 t3 => k.keep i o (h.keep i o e t1 t2 t3) t1 t2 t3⟩
theorem Fe.ofGr {base : Nat} {w w' : World} (G : Gr w w') (hb : base ≤ w.heap.size) : Fe ty base w w' := ⟨Below.mono G hb, fun i o e _ _ _ => (G.block i (gs e).1).trans e⟩
theorem Fe.gr {base : Nat} {a w w' : World} (h : Fe ty base a w) (G : Gr w w') (hb : base ≤ w.heap.size) : Fe ty base a w' := h.trans (Fe.ofGr G hb)
theorem Fe.drew {base : Nat} {a w : World} (h : Fe ty base a w) : Fe ty base a w.drew := ⟨h.below.drew, h.keep⟩
theorem Fe.ch {base : Nat} {w w' : World} {gh : Nat} {hs : List Hv} (R : HRow w gh hs) (q : Ch gh w w') (hg : base ≤ gh) (hb : base ≤ w.heap.size) : Fe ty base w w' := ⟨q.below hg hb, fun i o e _ t2 _ => by
  obtain ⟨rest, e2⟩ := R.row
  refine (q.block i (gs e).1 (fun h => ?_)).trans e
  injection h with h
  subst h
  rw [e2] at e
  injection e with e
  exact t2 _ _ e.symm⟩
theorem Fe.setCell {base : Nat} {a w : World} {g : Nat} {Y : Array Value} {f : Nat × Nat} (h : Fe ty base a w) (hy : w.heap[g]? = some (.cells Y ty f)) (hg : base ≤ g) (i : Nat) (v : Value) : Fe ty base a (w.setCell ⟨g, i, none⟩ v) := ⟨Below.setCell h.below (by exact hg) _, fun k o e t1 t2 t3 => by
  have e2 := h.keep k o e t1 t2 t3
  rw [hso (by
    show k ≠ g
    intro ek
    subst ek
    rw [hy] at e2
    injection e2 with e2
    exact t1 _ _ e2.symm)]
  exact e2⟩
theorem Fe.grown {base : Nat} {w w' : World} {O : Value} {n : Nat} {xs : List Value} (hO : w.ownsRow base 36 1 O n xs) (q : w.grownBy w' O.ownBlock) (hb : base ≤ w.heap.size) : Fe ty base w w' := ⟨(Below.refl base w).grown q hb fun k e => (hO.lt k e).1, fun k o e _ _ t3 => (q.block k (gs e).1 (fun h => by
    rcases hO.2 with ⟨h0, _⟩ | ⟨g', cap, cur, hv, _, hg, _⟩
    · rw [h0] at h; cases h
    · rw [hv] at h
      injection h with h
      subst h
      rw [hg] at e
      injection e with e
      exact t3 _ _ e.symm)).trans e⟩
/-- A block of cells of another type stays. -/
theorem Fe.cells {base : Nat} {w w' : World} (h : Fe ty base w w') {k : Nat} {q : Array Value} {t : Nat} {f : Nat × Nat} (e : w.heap[k]? = some (.cells q t f)) (t1 : t ≠ ty) (t2 : t ≠ 39) (t3 : t ≠ 36) : w'.heap[k]? = w.heap[k]? :=
  (h.keep k _ e (fun _ _ c => t1 (by injection c)) (fun _ _ c => t2 (by injection c)) (fun _ _ c => t3 (by injection c))).trans e.symm
/-- What came out, appended to: behind the append, and behind the store. -/
theorem grown_keep {w w' : World} {base : Nat} {O : Value} {n : Nat} {xs : List Value} {e sz : Nat} (hO : w.ownsRow base e sz O n xs) (q : w.grownBy w' O.ownBlock) {t : Nat} (ht : t ≠ e) {k : Nat} {o : Array Value} {f : Nat × Nat} (hk : w.heap[k]? = some (.cells o t f)) : w'.heap[k]? = w.heap[k]? :=
  q.block k (gs hk).1 (fun h => by
    rcases hO.2 with ⟨h0, _⟩ | ⟨g', cap, cur, hv, _, hg, _⟩
    · rw [h0] at h; cases h
    · rw [hv] at h
      injection h with h
      exact ne_of_types hk hg ht h)
theorem Bw.grown {w w' : World} {base g gh hc : Nat} {M O : Value} {s : Sh} (B : Bw ty rs w base g M gh hc O s) (q : w.grownBy w' O.ownBlock) {v : Value} {os : List Int} (ho : w'.ownsRow base 36 1 v os.length (os.map (Value.int .u32))) :
    w'.cell? ⟨g, 2, none⟩ = some O ∧ w'.frozen? ⟨g, 2, none⟩ = false ∧ Bw ty rs (w'.setCell ⟨g, 2, none⟩ v) base g M gh hc v ⟨s.hs, s.m, os, s.steps⟩ ∧ Fe ty base w (w'.setCell ⟨g, 2, none⟩ v) := by
  have st : ∀ {t : Nat}, t ≠ 36 → ∀ {k : Nat} {o : Array Value} {f : Nat × Nat}, w.heap[k]? = some (.cells o t f) → w'.heap[k]? = w.heap[k]? := fun ht _ _ _ hk => grown_keep B.out q ht hk
  have hb := (st B.t2 B.blk).trans B.blk
  have ne : ∀ {t : Nat}, t ≠ ty → ∀ {k : Nat} {o : Array Value} {f : Nat × Nat}, w'.heap[k]? = some (.cells o t f) → (w'.setCell ⟨g, 2, none⟩ v).heap[k]? = w'.heap[k]? := fun ht _ _ _ hk => hso (by exact ne_of_types hk hb ht)
  have two : ∀ {t : Nat}, t ≠ ty → t ≠ 36 → ∀ {k : Nat} {o : Array Value} {f : Nat × Nat}, w.heap[k]? = some (.cells o t f) → (w'.setCell ⟨g, 2, none⟩ v).heap[k]? = w.heap[k]? := fun h1 h2 _ _ _ hk => by
    have e := st h2 hk
    exact (ne h1 (e.trans hk)).trans e
  refine ⟨(cr hb).trans (by simp), fzr hb, ⟨B.t1, B.t2, B.t3, B.bg, by rw [hss hb]; simp, B.mem.to fun k o f hk => two B.t1.symm (by decide) hk, B.bh, B.row.to fun k o f hk => two B.t3.symm (by decide) hk, owns_to ho fun k o f hk => ne B.t2.symm hk⟩, ?_⟩
  exact Fe.setCell (Fe.grown B.out q B.base_le) hb B.bg _ _
end Go.Proofs.Ytphklaefhpoimac.Mc
/-
  What steps have changed, as the cells of structs (api.Undo): in slices that are read ('Us'), and in rows of the program's own ('Ux').
-/
namespace Go.Proofs.Ytphklaefhpoimac.Ud
open Go.ChangeShapes Go.WideShapes Go.ChangeAt Go.RowKit Mm Hh Hc Mc
set_option linter.unusedVariables false
set_option linter.unusedSimpArgs false

variable {w w' : World} {u : Uv} {b l : Value} {ao : Option Addr} {n : Nat}
/-- The cells of an Undo: b its bytes, l the harts that lost, as slices. -/
def uL (u : Uv) (b l : Value) : List Value := .int .i64 u.k :: (hL u.was ++ [.int .u32 u.fr, b, l])
theorem uL_len (o : u.was.Ok) : (uL u b l).length = 41 := by simp [uL, hL_len o]
theorem uL_0 : (uL u b l)[0]? = some (.int .i64 u.k) := rfl
theorem uL_was (o : u.was.Ok) {j : Nat} (hj : j < 37) : (uL u b l)[1 + j]? = (hL u.was)[j]? := by
  have := hL_len o
  unfold uL
  rw [Nat.add_comm, List.getElem?_cons_succ, List.getElem?_append_left (by omega)]
theorem uL_fld (o : u.was.Ok) (j : Nat) : (uL u b l)[38 + j]? = [Value.int .u32 u.fr, b, l][j]? := by
  have h := hL_len o
  unfold uL
  rw [show 38 + j = 37 + j + 1 by omega, List.getElem?_cons_succ, List.getElem?_append_right (by omega), h, Nat.add_sub_cancel_left]
theorem hL_one (h : Hv) : ∀ v ∈ hL h, v.oneCell' = true := fun v hv => by
  simp only [hL, List.mem_append, List.mem_map, List.mem_cons, List.not_mem_nil, or_false] at hv
  rcases hv with ⟨n, _, rfl⟩ | rfl | rfl | rfl | rfl | rfl <;> rfl
theorem uL_one (h1 : b.oneCell' = true) (h2 : l.oneCell' = true) : ∀ v ∈ uL u b l, v.oneCell' = true := fun v hv => by
  simp only [uL, List.mem_cons, List.mem_append, List.not_mem_nil, or_false] at hv
  rcases hv with rfl | h | rfl | rfl | rfl
  · rfl
  · exact hL_one _ v h
  · rfl
  · exact h1
  · exact h2
theorem uA_one (h1 : b.oneCell' = true) (h2 : l.oneCell' = true) : (uL u b l).toArray.all (·.oneCell') = true := all_oneCell_toArray (uL_one h1 h2)
theorem iU : (Try.prog.info? 45).map (·.size) = some 41 := by kernel_rfl
def h00 : Uv := ⟨0, h0, 0, [], []⟩
theorem zU : (Try.prog.info? 45).bind (·.zero) = some (.agg (uL h00 nilS nilS).toArray) := by kernel_rfl
theorem infoU : (Try.prog.info? 45).map (fun i => (i.zero, i.size, i.bytes)) = some (some (.agg (uL h00 nilS nilS).toArray), 41, 224) := by kernel_rfl
theorem rangeAt_of {b o : Nat} {cs : List Value} (h : w.rangeAt b o cs) (hb : b < w.heap.size) (G : Gr w w') : w'.rangeAt b o cs := fun j v hv => (G.cell _ (by exact hb)).trans (h j v hv)
/-- Harts that lost, as cells. -/
def lsI (ls : List (Int × Int)) : List Value := ls.flatMap fun q => [.int .i64 q.1, .int .u32 q.2]
theorem lsI_lostI (ls : List (Nat × Int)) : lsI (lostI ls) = lsC ls := by
  induction ls with
  | nil => rfl
  | cons q r ih => simp only [lsI, lostI, lsC, List.map_cons, List.flatMap_cons] at ih ⊢; rw [ih]
theorem lsI_len (ls : List (Int × Int)) : (lsI ls).length = ls.length * 2 := by
  induction ls with
  | nil => rfl
  | cons p r ih => simp only [lsI, List.flatMap_cons, List.length_append, List.length_cons, List.length_nil] at ih ⊢; omega
theorem lsI_snoc (ls : List (Int × Int)) (q : Int × Int) : lsI (ls ++ [q]) = lsI ls ++ [.int .i64 q.1, .int .u32 q.2] := by simp [lsI]
theorem lsI_get : ∀ (ls : List (Int × Int)) (i : Nat) (q : Int × Int), ls[i]? = some q → (lsI ls)[i * 2]? = some (.int .i64 q.1) ∧ (lsI ls)[i * 2 + 1]? = some (.int .u32 q.2)
  | [], i, q, h => by simp at h
  | p :: r, 0, q, h => by simp at h; subst h; exact ⟨rfl, rfl⟩
  | p :: r, i + 1, q, h => by
    have ih := lsI_get r i q (by simpa using h)
    have e : lsI (p :: r) = [.int .i64 p.1, .int .u32 p.2] ++ lsI r := rfl
    rw [e, List.getElem?_append_right (by simp; omega), List.getElem?_append_right (by simp; omega)]
    simp only [List.length_cons, List.length_nil]
    rw [show (i + 1) * 2 - (0 + 1 + 1) = i * 2 by omega, show (i + 1) * 2 + 1 - (0 + 1 + 1) = i * 2 + 1 by omega]
    exact ih
/-- In world w, the slice at ao of n elements reads as harts that lost. -/
structure Ls (w : World) (ao : Option Addr) (n : Nat) (ls : List (Int × Int)) : Prop where
  len : ls.length = n
  spot : 0 < n → ∃ b o, ao = some ⟨b, o, none⟩ ∧ b < w.heap.size ∧ ∀ i p, ls[i]? = some p → w.cell? ⟨b, o + i * 2, none⟩ = some (.int .i64 p.1) ∧ w.cell? ⟨b, o + i * 2 + 1, none⟩ = some (.int .u32 p.2)
theorem Ls.of {ls : List (Int × Int)} (h : Ls w ao n ls) (g : Gr w w') : Ls w' ao n ls :=
  ⟨h.len, fun hn => by
    obtain ⟨b, o, e, hb, hc⟩ := h.spot hn
    exact ⟨b, o, e, Nat.lt_of_lt_of_le hb g.size, fun i q hq => ⟨(g.cell _ (by exact hb)).trans (hc i q hq).1, (g.cell _ (by exact hb)).trans (hc i q hq).2⟩⟩⟩
theorem Ls.below {n0 : Nat} {ls : List (Int × Int)} (h : Ls w ao n ls) (hb : ∀ ad, ao = some ad → 0 < n → ad.block < n0) (g : Below n0 w w') : Ls w' ao n ls :=
  ⟨h.len, fun hn => by
    obtain ⟨b, o, rfl, hl, hc⟩ := h.spot hn
    have hb2 := hb _ rfl hn
    exact ⟨b, o, rfl, Nat.lt_of_lt_of_le hl g.size, fun i q hq => ⟨(g.cell (by exact hb2)).trans (hc i q hq).1, (g.cell (by exact hb2)).trans (hc i q hq).2⟩⟩⟩
/-- An Undo as cells that are read. -/
def Uc (w : World) (u : Uv) (x : List Value) : Prop := ∃ ba bn bc la ln lc, x = uL u (.slice ba bn bc) (.slice la ln lc) ∧ u.Ok ∧ (-9223372036854775808 ≤ u.k ∧ u.k ≤ 9223372036854775807) ∧ (∀ q ∈ u.lost, -9223372036854775808 ≤ q.1 ∧ q.1 ≤ 9223372036854775807) ∧ Mem w ba bn u.bs ∧ Ls w la ln u.lost ∧ bn ≤ 140737488351232 ∧ ln ≤ 8796093022208
theorem Uc.of {x : List Value} (h : Uc w u x) (G : Gr w w') : Uc w' u x := by
  obtain ⟨ba, bn, bc, la, ln, lc, e, o, k1, k2, M, L, b1, b2⟩ := h
  exact ⟨ba, bn, bc, la, ln, lc, e, o, k1, k2, M.of G, L.of G, b1, b2⟩
theorem Uc.len {x : List Value} (h : Uc w u x) : x.length = 41 := by
  obtain ⟨ba, bn, bc, la, ln, lc, rfl, o, _⟩ := h
  exact uL_len o.was
theorem Uc.one {x : List Value} (h : Uc w u x) : x.toArray.all (·.oneCell') = true := by
  obtain ⟨ba, bn, bc, la, ln, lc, rfl, o, _⟩ := h
  exact uA_one rfl rfl
/-- In world w, the slice at ao of n elements reads as the Undos us. -/
structure Us (w : World) (ao : Option Addr) (n : Nat) (us : List Uv) : Prop where
  len : us.length = n
  spot : 0 < n → ∃ b o, ao = some ⟨b, o, none⟩ ∧ b < w.heap.size ∧ ∀ j u, us[j]? = some u → ∃ x, Uc w u x ∧ w.rangeAt b (o + j * 41) x
theorem Us.of {us : List Uv} (h : Us w ao n us) (G : Gr w w') : Us w' ao n us :=
  ⟨h.len, fun hn => by
    obtain ⟨b, o, e, hb, hc⟩ := h.spot hn
    refine ⟨b, o, e, Nat.lt_of_lt_of_le hb G.size, fun j u hj => ?_⟩
    obtain ⟨x, h1, h2⟩ := hc j u hj
    exact ⟨x, h1.of G, rangeAt_of h2 hb G⟩⟩
/-- An Undo as cells of the program's own: its bytes and those that lost lie in rows of its own. -/
def Uo (w : World) (u : Uv) (x : List Value) : Prop := ∃ M L, x = uL u M L ∧ Hc.Own w 0 M u.bs ∧ w.ownsRow 0 55 2 L u.lost.length (lsI u.lost)
/-- What keeps rows of bytes and of those that lost. -/
def Ky (w w' : World) : Prop := ∀ (k : Nat) (o : Array Value) (t : Nat) (f : Nat × Nat), (t = 5 ∨ t = 55) → w.heap[k]? = some (.cells o t f) → w'.heap[k]? = w.heap[k]?
theorem Ky.ofGr (G : Gr w w') : Ky w w' := fun k o t f _ h => G.block _ (gs h).1
theorem Uo.to {x : List Value} (h : Uo w u x) (q : Ky w w') : Uo w' u x := by
  obtain ⟨M, L, e, h1, h2⟩ := h
  exact ⟨M, L, e, h1.to fun k o f hk => q k o _ f (.inl rfl) hk, owns_to h2 fun k o f hk => q k o _ f (.inr rfl) hk⟩
theorem Uo.one {x : List Value} (h : Uo w u x) : ∀ v ∈ x, v.oneCell' = true := by
  obtain ⟨M, L, rfl, h1, h2⟩ := h
  obtain ⟨a, c, rfl, _⟩ := h1.mem
  exact uL_one rfl (owns_cells h2).2.1
structure Ux (w : World) (us : List Uv) (xs : List Value) : Prop where
  len : xs.length = us.length * 41
  at_ : ∀ (j : Nat) (u : Uv), us[j]? = some u → ∃ x, Uo w u x ∧ x.length = 41 ∧ ∀ i v, x[i]? = some v → xs[j * 41 + i]? = some v
theorem Ux.nil (w : World) : Ux w [] [] := ⟨rfl, fun j u h => by simp at h⟩
theorem Ux.to {us : List Uv} {xs : List Value} (h : Ux w us xs) (q : Ky w w') : Ux w' us xs :=
  ⟨h.len, fun j u hj => by
    obtain ⟨x, h1, h2⟩ := h.at_ j u hj
    exact ⟨x, h1.to q, h2⟩⟩
theorem Ux.snoc {us : List Uv} {xs x : List Value} (h : Ux w us xs) (k : Uo w u x) (hx : x.length = 41) : Ux w (us ++ [u]) (xs ++ x) := by
  have hl := h.len
  refine ⟨by rw [List.length_append, List.length_append, hl, hx]; simp; omega, fun j c hc => ?_⟩
  by_cases hj : j < us.length
  · rw [List.getElem?_append_left hj] at hc
    obtain ⟨y, h1, h2, h3⟩ := h.at_ j c hc
    refine ⟨y, h1, h2, fun i v hi => ?_⟩
    have : i < 41 := by have := (List.getElem?_eq_some_iff.1 hi).1; omega
    rw [List.getElem?_append_left (by omega)]
    exact h3 i v hi
  · rw [List.getElem?_append_right (by omega)] at hc
    have hj2 : j = us.length := by
      have := (List.getElem?_eq_some_iff.1 hc).1
      simp at this
      omega
    subst hj2
    simp at hc
    subst hc
    refine ⟨x, k, hx, fun i v hi => ?_⟩
    rw [List.getElem?_append_right (by omega), hl, Nat.add_sub_cancel_left]
    exact hi
theorem owns_read {base e sz c : Nat} {a : Option Addr} {xs : List Value} (h : w.ownsRow base e sz (.slice a n c) n xs) (hn : 0 < n) : ∃ g, a = some ⟨g, 0, none⟩ ∧ g < w.heap.size ∧ ∀ j v, xs[j]? = some v → w.cell? ⟨g, j, none⟩ = some v := by
  rcases h.2 with ⟨e0, hz⟩ | ⟨g, cap, cur, e1, _, hg, _, _, _, ht⟩
  · omega
  · injection e1 with e1 _ _
    refine ⟨g, e1, (gs hg).1, fun j v hj => ?_⟩
    rw [cr hg]
    rw [← ht, List.getElem?_take] at hj
    split at hj
    · simpa using hj
    · cases hj
theorem Uo.uc {x : List Value} (h : Uo w u x) (o : u.Ok) (k1 : -9223372036854775808 ≤ u.k ∧ u.k ≤ 9223372036854775807) (k2 : ∀ q ∈ u.lost, -9223372036854775808 ≤ q.1 ∧ q.1 ≤ 9223372036854775807) (b1 : u.bs.length ≤ 4096) (b2 : u.lost.length ≤ 4096) : Uc w u x := by
  obtain ⟨M, L, rfl, h1, h2⟩ := h
  obtain ⟨ba, bc, rfl, M1⟩ := h1.mem
  obtain ⟨_, _, la, lc, rfl⟩ := owns_cells h2
  refine ⟨ba, _, bc, la, _, lc, rfl, o, k1, k2, M1, ⟨rfl, fun hn => ?_⟩, by omega, by omega⟩
  obtain ⟨g, rfl, hg, hr⟩ := owns_read h2 hn
  refine ⟨g, 0, rfl, hg, fun i p hp => ?_⟩
  have := lsI_get _ _ _ hp
  rw [Nat.zero_add]
  exact ⟨hr _ _ this.1, hr _ _ this.2⟩
theorem Ux.us {us : List Uv} {xs : List Value} {base c : Nat} {a : Option Addr} (h : Ux w us xs) (r : w.ownsRow base 45 41 (.slice a n c) n xs) (hl : us.length = n) (ok : ∀ u ∈ us, u.Ok ∧ (-9223372036854775808 ≤ u.k ∧ u.k ≤ 9223372036854775807) ∧ (∀ q ∈ u.lost, -9223372036854775808 ≤ q.1 ∧ q.1 ≤ 9223372036854775807) ∧ u.bs.length ≤ 4096 ∧ u.lost.length ≤ 4096) : Us w a n us :=
  ⟨hl, fun hn => by
    obtain ⟨g, e, hg, hr⟩ := owns_read r hn
    refine ⟨g, 0, e, hg, fun j u hj => ?_⟩
    obtain ⟨x, h1, h2, h3⟩ := h.at_ j u hj
    obtain ⟨o, k1, k2, b1, b2⟩ := ok u (List.mem_of_getElem? hj)
    exact ⟨x, h1.uc o k1 k2 b1 b2, fun i v hi => by rw [Nat.zero_add]; exact hr _ _ (h3 i v hi)⟩⟩
end Go.Proofs.Ytphklaefhpoimac.Ud
/-
  What Board's Take does: what a hart did is made true ('tk').
-/
namespace Go.Proofs.Ytphklaefhpoimac.Mc
open Go.ChangeShapes Go.WideShapes Go.ChangeAt Go.RowKit Mm Hh Hc
set_option linter.unusedVariables false
set_option linter.unusedSimpArgs false

variable {ty : Nat} {rs : List Value}
theorem rgs_get : ∀ (ss : List (Int × Int)) (i : Nat) (p : Int × Int), ss[i]? = some p → (rgs ss)[i * 2]? = some (.int .u32 p.1) ∧ (rgs ss)[i * 2 + 1]? = some (.int .u32 (Wd.lo (p.1 + p.2)))
  | [], i, q, h => by simp at h
  | p :: r, 0, q, h => by simp at h; subst h; exact ⟨rfl, rfl⟩
  | p :: r, i + 1, q, h => by
    have ih := rgs_get r i q (by simpa using h)
    have e : rgs (p :: r) = [.int .u32 p.1, .int .u32 (Wd.lo (p.1 + p.2))] ++ rgs r := rfl
    rw [e, List.getElem?_append_right (by simp; omega), List.getElem?_append_right (by simp; omega)]
    simp only [List.length_cons, List.length_nil]
    rw [show (i + 1) * 2 - (0 + 1 + 1) = i * 2 by omega, show (i + 1) * 2 + 1 - (0 + 1 + 1) = i * 2 + 1 by omega]
    exact ih
theorem take_snoc {α : Type} {l : List α} {i : Nat} {x : α} (h : l[i]? = some x) : l.take (i + 1) = l.take i ++ [x] := by
  rw [List.take_add_one, h]
  rfl
theorem drops_snoc (hs : List Hv) {U : List (Nat × Int)} {m : Nat} {q : Nat × Int} (h : U[m]? = some q) : drops hs (U.take (m + 1)) = (drops hs (U.take m)).set q.1 (((drops hs (U.take m)).getD q.1 hN).hold false 0) := by
  rw [take_snoc h, drops_app]
  rfl
theorem lose_snoc (k : Nat) {ss : List (Int × Int)} {i : Nat} {p : Int × Int} (h : ss[i]? = some p) (hs : List Hv) : lose k (ss.take (i + 1)) hs = lose k [p] (lose k (ss.take i) hs) := by
  rw [take_snoc h, lose_app]
theorem cell_sa (w : World) (p : Addr) (v a b : Value) (t : Nat) : ((w.setCell p v).alloc (.cells #[a, b] t)).drew.cell? ⟨w.heap.size, 0, none⟩ = some a := by
  have := heap_alloc_new (w.setCell p v) (.cells #[a, b] t)
  have e : (w.setCell p v).heap.size = w.heap.size := by simp
  rw [e] at this
  exact cell_of_row _ _ _ _ _ (0, 0) this
theorem cell_saa (w : World) (p p' : Addr) (v v' a b : Value) (t : Nat) : (((w.setCell p v).setCell p' v').alloc (.cells #[a, b] t)).drew.drew.cell? ⟨w.heap.size, 0, none⟩ = some a := by
  have := heap_alloc_new ((w.setCell p v).setCell p' v') (.cells #[a, b] t)
  have e : ((w.setCell p v).setCell p' v').heap.size = w.heap.size := by simp
  rw [e] at this
  exact cell_of_row _ _ _ _ _ (0, 0) this
end Go.Proofs.Ytphklaefhpoimac.Mc
/-
  What package machine's Run answers: how a machine runs ('play'), or what is wrong.
-/
namespace Go.Proofs.Ytphklaefhpoimac.Mc
open Go.ChangeShapes Go.WideShapes Go.ChangeAt Go.RowKit Mm Hh Hc
set_option linter.unusedVariables false
set_option linter.unusedSimpArgs false

theorem wk_ok {m : Nat} : ∀ (n : Nat) {x : Wk}, WOk x m → WOk (wk x n) m ∧ (wk x n).n ≤ x.n + n
  | 0, x, o => ⟨o, Nat.le_refl _⟩
  | n + 1, x, o => by
    unfold wk
    split
    · rename_i h
      have := wk_ok n (wk1_ok o h)
      refine ⟨this.1, ?_⟩
      have h2 := this.2
      have : (wk1 x).n = x.n + 1 := rfl
      omega
    · exact ⟨o, by omega⟩
/-- What came out is no more than the steps; these are at most t. -/
def Few (s : Sh) (t : Nat) : Prop := s.out.length ≤ s.steps ∧ s.steps ≤ t
theorem tk_few {s : Sh} {t m n k : Nat} {x : Wk} (f : Few s t) (o : WOk x m) (h : x.n ≤ n) : Few (tk s k x) (t + n) := by
  unfold Few tk at *
  have := o.out
  simp only [List.length_append]
  omega
/-- A script of picks that may be, as numbers. -/
def nums (ps : List (Int × Int)) : List (Nat × Nat) := ps.map fun p => (p.1.toNat, p.2.toNat)
theorem nums_get {ps : List (Int × Int)} {j : Nat} {p : Int × Int} (h : ps[j]? = some p) : (nums ps).take (j + 1) = (nums ps).take j ++ [(p.1.toNat, p.2.toNat)] := by
  refine take_snoc ?_
  unfold nums
  rw [List.getElem?_map, h]
  rfl
theorem wrong_ok {m : List UInt8} {hs : List Hv} {ps : List (Int × Int)} (h : wrong m hs ps = 0) : m.length ≤ 4096 ∧ 1 ≤ hs.length ∧ hs.length ≤ 4 ∧ (∀ h ∈ hs, may h = true) ∧ ps.length ≤ 300 ∧ ∀ p ∈ ps, 0 ≤ p.1 ∧ p.1 < hs.length ∧ 0 ≤ p.2 ∧ p.2 ≤ 400 := by
  unfold wrong at h
  split at h
  · omega
  split at h
  · omega
  split at h
  · omega
  split at h
  · omega
  rename_i h1 h2 h3 h4
  refine ⟨by omega, by omega, by omega, ?_, by omega, fun p hp => ?_⟩
  · simpa using h2
  · have := (List.all_eq_true.1 (by simpa using h4)) p hp
    simpa [pickOk] using this
theorem HRow.lt {w : World} {g : Nat} {hs : List Hv} (r : HRow w g hs) : g < w.heap.size := by
  obtain ⟨_, e⟩ := r.row; exact (Array.getElem?_eq_some_iff.1 e).1
theorem HRow.hs {w : World} {g c : Nat} {hs : List Hv} (r : HRow w g hs) (h : hs.length = c) : Hs w (some ⟨g, 0, none⟩) c hs :=
  ⟨h, r.ok, fun _ => ⟨g, 0, rfl, r.lt, fun i q hq => by rw [Nat.zero_add]; exact r.range hq⟩⟩
/-- In world w, the struct v (api.Shown) reads as S: a machine of c harts and mn bytes, what came out, steps. -/
def Shn (w : World) (v : Value) (c mn : Nat) (S : Sh) : Prop := ∃ ma mc ha hc oa oc, v = .agg #[.slice ma mn mc, .slice ha c hc, .slice oa S.out.length oc, .int .i64 S.steps] ∧ Mem w ma mn S.m ∧ (ma = none → mc = 0) ∧ Hs w ha c S.hs ∧ Wm w oa S.out.length S.out ∧ (oa = none → oc = 0)
theorem Shn.of {w w' : World} {v : Value} {c mn : Nat} {S : Sh} (h : Shn w v c mn S) (G : Gr w w') : Shn w' v c mn S := by
  obtain ⟨ma, mc, ha, hc, oa, oc, e, h1, h2, h3, h4, h5⟩ := h
  exact ⟨ma, mc, ha, hc, oa, oc, e, h1.of G, h2, h3.of G, h4.of G, h5⟩
theorem own_cap {w : World} {a : Option Addr} {n c : Nat} {l : List UInt8} (h : Own w 0 (.slice a n c) l) : a = none → c = 0 := by
  rintro rfl
  rcases h with ⟨h, _⟩ | ⟨k, cap, h, _⟩
  · injection h
  · cases h
theorem owns_cap {w : World} {base e sz n c : Nat} {a : Option Addr} {xs : List Value} (h : w.ownsRow base e sz (.slice a n c) n xs) : a = none → c = 0 := by
  rintro rfl
  rcases h.2 with ⟨h, _⟩ | ⟨g, cap, cur, h, _⟩
  · injection h
  · cases h
theorem gr_trans2 {a b c : World} {n : Nat} (h : Gr a b) (k : Below n b c) (hn : a.heap.size ≤ n) : Gr a c := Below.trans h (Below.mono k hn)
theorem shn_own {w : World} {va oa : Option Addr} {vc gh hc oc c mn base : Nat} {S : Sh} (h1 : Own w 0 (.slice va mn vc) S.m) (hm : S.m.length = mn) (h2 : HRow w gh S.hs) (hl : S.hs.length = c) (h3 : w.ownsRow base 36 1 (.slice oa S.out.length oc) S.out.length (S.out.map (Value.int .u32))) :
    Shn w (.agg #[.slice va mn vc, .slice (some ⟨gh, 0, none⟩) c hc, .slice oa S.out.length oc, .int .i64 S.steps]) c mn S := by
  obtain ⟨a, b, e, M⟩ := h1.mem
  obtain ⟨a2, b2, e2, W⟩ := wm_own rfl h3
  injection e with e3 e4 e5
  injection e2 with e6 e7 e8
  subst e3 e6
  rw [hm] at M
  exact ⟨_, _, _, _, _, _, rfl, M, own_cap h1, h2.hs hl, W, owns_cap h3⟩
theorem iS : (Try.prog.info? 52).map (·.size) = some 4 := by kernel_rfl

end Go.Proofs.Ytphklaefhpoimac.Mc
/-
  What package undo's fit says: whether each Undo of a list can be one of a machine.
-/
namespace Go.Proofs.Ytphklaefhpoimac.Ud
open Go.ChangeShapes Go.WideShapes Go.ChangeAt Go.RowKit Mm Hh Hc Mc
set_option linter.unusedVariables false
set_option linter.unusedSimpArgs false

variable {w : World} {ma ha la : Option Addr} {mn mc hn hc ln lc : Nat} {us : List Uv} {u : Uv} {x : List Value}
theorem retB {a b : Bool} (h : a = b) : Ending.returned (.bool a) = .returned (.bool b) := by rw [h]
/-- There is a hart of that number. -/
theorem there_any (mb : Nat) (k1 : w.cell? ⟨mb, 1, none⟩ = some (.slice ha hn hc)) (hb : hn ≤ 140737488351232) (q : Int) :
    Calls Try.prog 18 #[.int .i64 q, .pointer (some ⟨mb, 0, none⟩)] w fun e w' => e = .returned (.bool (decide (0 ≤ q ∧ q < hn))) ∧ Gr w w' := by
  by_cases h0 : 0 ≤ q
  · by_cases h1 : q < hn
    · go_enter Try.func18, Try.ntmps18
      go_wp2
      go_ret
      exact ⟨retB (by simp [h0, h1]), Gr.refl _⟩
    · go_enter Try.func18, Try.ntmps18
      go_wp2
      go_ret
      exact ⟨retB (by simp [h1]), Gr.refl _⟩
  · go_enter Try.func18, Try.ntmps18
    go_wp2
    go_ret
    exact ⟨retB (by rw [decide_eq_false (show ¬ 0 ≤ q by omega)]; rfl), Gr.refl _⟩
set_option maxRecDepth 100000 in
/-- The bytes of an Undo end within the memory. -/
theorem inside_any (U : Uc w u x) (hb : mn ≤ 140737488351232) : Calls Try.prog 19 #[.slice ma mn mc, .agg x.toArray] w fun e w' => e = .returned (.bool (decide (u.fr + u.bs.length ≤ mn))) ∧ Gr w w' := by
  obtain ⟨ba, bn, bc, l1, l2, l3, rfl, o, _, _, M, _, b1, _⟩ := U
  have hl := M.len
  have f0 := o.f0
  have f1 := o.f1
  have k38 : (uL u (.slice ba bn bc) (.slice l1 l2 l3)).toArray[38]? = some (.int .u32 u.fr) := by rw [List.getElem?_toArray]; exact uL_fld o.was 0
  have k39 : (uL u (.slice ba bn bc) (.slice l1 l2 l3)).toArray[39]? = some (.slice ba bn bc) := by rw [List.getElem?_toArray]; exact uL_fld o.was 1
  have HR : Hid ((decide (u.fr + u.bs.length ≤ mn)) = decide (u.fr + (bn : Int) ≤ mn)) := by unfold Hid; rw [hl]
  clear M o hl
  generalize (uL u (.slice ba bn bc) (.slice l1 l2 l3)).toArray = X at *
  have q38 : (w.alloc (.cells X 45)).cell? ⟨w.heap.size, 38, none⟩ = some (.int .u32 u.fr) := (cr (heap_alloc_new w _)).trans k38
  have q39 : (w.alloc (.cells X 45)).cell? ⟨w.heap.size, 39, none⟩ = some (.slice ba bn bc) := (cr (heap_alloc_new w _)).trans k39
  clear k38 k39
  generalize u.fr = f at *
  have e1 : IntKind.u64.wrap f = f := by simp [IntKind.wrap, IntKind.bits, IntKind.signed]; omega
  have e2 : IntKind.u64.wrap (bn : Int) = bn := by simp [IntKind.wrap, IntKind.bits, IntKind.signed]; omega
  have e3 : IntKind.u64.wrap (f + (bn : Int)) = f + bn := by simp [IntKind.wrap, IntKind.bits, IntKind.signed]; omega
  have e4 : IntKind.u64.wrap (mn : Int) = mn := by simp [IntKind.wrap, IntKind.bits, IntKind.signed]; omega
  go_enter Try.func19, Try.ntmps19
  go_wp2
  go_ret
  exact ⟨retB HR.out.symm, (Gr.refl _).alloc _⟩

theorem all_no {α : Type} {f : α → Bool} {l : List α} {k : Nat} {y : α} (h : l[k]? = some y) (hx : f y = false) : l.all f = false := all_false h hx
set_option maxHeartbeats 4000000 in
set_option maxRecDepth 100000 in
theorem fit_any (U : Us w la ln us) (hb1 : mn ≤ 140737488351232) (hb2 : hn ≤ 140737488351232) (hb3 : ln ≤ 140737488351232) :
    Calls Try.prog 8 #[.agg #[.slice ma mn mc, .slice ha hn hc], .slice la ln lc] w fun e w' => e = .returned (.bool (us.all (fitU hn mn))) ∧ Gr w w' := by
  have HU : Hid (Us w la ln us) := U
  have HL : Hid (us.length = ln) := U.len
  have HC : Hid (∀ (q : Int) (W : World), Gr w W → W.heap[w.heap.size]? = some (.cells #[.slice ma mn mc, .slice ha hn hc] 25 (0, 0)) → Calls Try.prog 18 #[.int .i64 q, .pointer (some ⟨w.heap.size, 0, none⟩)] W fun e w' => e = .returned (.bool (decide (0 ≤ q ∧ q < hn))) ∧ Gr W w') := fun q W G e => there_any w.heap.size (cr1 e) hb2 q
  clear U
  go_enter Try.func8, Try.ntmps8
  go_wp2_with fail
  go_loopw [13] (fun i wr => ∃ j : Nat, j ≤ ln ∧ i = .int .i64 j ∧ (us.take j).all (fitU hn mn) = true ∧ Gr w wr ∧ wr.heap[w.heap.size]? = some (.cells #[.slice ma mn mc, .slice ha hn hc] 25 (0, 0))) (fun i _ => ln - (intOf i).toNat)
  case atStart => exact ⟨0, Nat.zero_le _, rfl, rfl, (Gr.refl _).alloc _, heap_alloc_new w _⟩
  case round =>
    obtain ⟨j, hj, rfl, hall, G, KM⟩ := hrel
    have HA : Hid ((us.take j).all (fitU hn mn) = true) := hall
    have HG : Hid (Gr w wr) := G
    have HM : Hid (wr.heap[w.heap.size]? = some (.cells #[.slice ma mn mc, .slice ha hn hc] 25 (0, 0))) := KM
    have hml : w.heap.size < wr.heap.size := (gs KM).1
    clear hall G KM
    by_cases hlt : j < ln
    · obtain ⟨u, hu⟩ : ∃ u, us[j]? = some u := ⟨_, List.getElem?_eq_getElem (by rw [HL.out]; exact hlt)⟩
      obtain ⟨b, o, rfl, hb, hc'⟩ := HU.out.spot (by omega)
      obtain ⟨x, Ux', hr⟩ := hc' j u hu
      have RG : Hid (wr.rangeAt b (o + j * 41) x) := rangeAt_of hr hb HG.out
      have HXL : Hid (x.length = 41) := Ux'.len
      have HXA : Hid (x.toArray.size = 41) := by unfold Hid; simp [HXL.out]
      have HX1 : Hid (x.toArray.all (·.oneCell') = true) := Ux'.one
      have HIn : Hid (∀ W : World, Gr w W → Calls Try.prog 19 #[.slice ma mn mc, .agg x.toArray] W fun e w' => e = .returned (.bool (decide (u.fr + u.bs.length ≤ mn))) ∧ Gr W w') := fun W G => inside_any (Ux'.of G) hb1
      obtain ⟨ba, bn, bc', l1, l2, l3, hx, ok, hk, hq, _, LS, _, b2⟩ := Ux'
      have HXe : Hid (x[0]? = some (.int .i64 u.k) ∧ ∀ i v, (hL u.was)[i]? = some v → x[1 + i]? = some v) := by
        rw [hx]
        refine ⟨rfl, fun i v hi => ?_⟩
        have : i < 37 := by have := (List.getElem?_eq_some_iff.1 hi).1; rwa [hL_len ok.was] at this
        rw [uL_was ok.was this]; exact hi
      have HX40 : Hid (x[40]? = some (.slice l1 l2 l3)) := by rw [hx]; exact uL_fld ok.was 2
      have HLS : Hid (Ls w l1 l2 u.lost) := LS
      have HMy : Hid (∀ W : World, Calls Try.prog 17 #[.agg (hL u.was).toArray] W fun e w' => e = .returned (.bool (may u.was)) ∧ Gr W w') := fun W => may_any ok.was W
      have HHL : Hid ((hL u.was).length = 37) := hL_len ok.was
      have HG4 : Hid (∀ Y : Array Value, Gr wr ((wr.alloc (.cells Y 45)).setRow wr.heap.size x.toArray)) := fun Y => gr_setRow ((Gr.refl _).alloc _) (Nat.le_refl _) _
      have HS4 : Hid (∀ Y : Array Value, ((wr.alloc (.cells Y 45)).setRow wr.heap.size x.toArray).heap[wr.heap.size]? = some (.cells x.toArray 45 (0, 0))) := fun Y => srh (heap_alloc_new wr _)
      have HM4 : Hid (∀ Y : Array Value, ((wr.alloc (.cells Y 45)).setRow wr.heap.size x.toArray).heap[w.heap.size]? = some (.cells #[.slice ma mn mc, .slice ha hn hc] 25 (0, 0))) := fun Y => Hr.heap_of_gr (HG4.out Y) HM.out
      have u0 : ∀ Y : Array Value, ((wr.alloc (.cells Y 45)).setRow wr.heap.size x.toArray).cell? ⟨wr.heap.size, 0, none⟩ = some (.int .i64 u.k) := fun Y => (cr (HS4.out Y)).trans (by rw [List.getElem?_toArray]; exact HXe.out.1)
      have HFu : Hid (fitU hn mn u = (decide (0 ≤ u.k ∧ u.k < hn) && (may u.was && (decide (u.fr + u.bs.length ≤ mn) && u.lost.all fun q => decide (0 ≤ q.1 ∧ q.1 < hn))))) := rfl
      have HNx : Hid ((us.take (j + 1)).all (fitU hn mn) = ((us.take j).all (fitU hn mn) && fitU hn mn u)) := all_take _ _ _ _ hu
      have HFl : Hid (fitU hn mn u = false → us.all (fitU hn mn) = false) := fun h => all_no hu h
      clear hc' hr hx ok LS HU hu
      have HC1 : Hid (∀ W : World, Gr w W → W.heap[w.heap.size]? = some (.cells #[.slice ma mn mc, .slice ha hn hc] 25 (0, 0)) → Calls Try.prog 18 #[.int .i64 u.k, .pointer (some ⟨w.heap.size, 0, none⟩)] W fun e w' => e = .returned (.bool (decide (0 ≤ u.k ∧ u.k < hn))) ∧ Gr W w') := HC.out u.k
      generalize decide (0 ≤ u.k ∧ u.k < (hn : Int)) = t1 at HC1 HFu
      generalize may u.was = t2 at HMy HFu
      generalize decide (u.fr + u.bs.length ≤ mn) = t3 at HIn HFu
      cases t1 with
      | false =>
        have HNo : Hid (us.all (fitU hn mn) = false) := HFl.out (by rw [HFu.out]; rfl)
        clear HFu HFl HNx
        go_wp2_with (first
          | (refine wpList_load_mid rfl 45 _ rfl b (o + j * 41) rfl x _ ?r1 Try.underlying45 rfl (by rw [HXL.out]; exact iU) ?_; (case r1 => exact RG.out))
          | (refine wpList_store_row rfl 45 _ _ rfl wr.heap.size x.toArray rfl rfl 45 _ (heap_alloc_new wr _) (by rw [HXA.out]; exact iU) (by rw [HXA.out]; rfl) HX1.out ?_))
        refine (HC1.out _ (HG.out.trans (HG4.out _)) (HM4.out _)).mono ?_
        rintro e w5 ⟨rfl, G5⟩
        have HG5 : Hid (Gr w w5) := HG.out.trans ((HG4.out _).trans G5)
        have HU5 : Hid (w5.heap[wr.heap.size]? = some (.cells x.toArray 45 (0, 0))) := Hr.heap_of_gr G5 (HS4.out _)
        have HM5 : Hid (w5.heap[w.heap.size]? = some (.cells #[.slice ma mn mc, .slice ha hn hc] 25 (0, 0))) := Hr.heap_of_gr ((HG4.out _).trans G5) HM.out
        have R5 : Hid (w5.rangeAt (wr.heap.size) 1 (hL u.was)) := fun i v hv => by rw [cr HU5.out, List.getElem?_toArray]; exact HXe.out.2 i v hv
        have hl5 : wr.heap.size < w5.heap.size := (gs HU5.out).1
        clear G5 HS4 HG4 HM4 u0 HC1
        go_wp2_with fail
        go_ret
        exact ⟨retB HNo.out.symm, HG5.out⟩
      | true =>
        cases t2 with
        | false =>
          have HNo : Hid (us.all (fitU hn mn) = false) := HFl.out (by rw [HFu.out]; rfl)
          clear HFu HFl HNx
          go_wp2_with (first
            | (refine wpList_load_mid rfl 45 _ rfl b (o + j * 41) rfl x _ ?r1 Try.underlying45 rfl (by rw [HXL.out]; exact iU) ?_; (case r1 => exact RG.out))
            | (refine wpList_store_row rfl 45 _ _ rfl wr.heap.size x.toArray rfl rfl 45 _ (heap_alloc_new wr _) (by rw [HXA.out]; exact iU) (by rw [HXA.out]; rfl) HX1.out ?_))
          refine (HC1.out _ (HG.out.trans (HG4.out _)) (HM4.out _)).mono ?_
          rintro e w5 ⟨rfl, G5⟩
          have HG5 : Hid (Gr w w5) := HG.out.trans ((HG4.out _).trans G5)
          have HU5 : Hid (w5.heap[wr.heap.size]? = some (.cells x.toArray 45 (0, 0))) := Hr.heap_of_gr G5 (HS4.out _)
          have HM5 : Hid (w5.heap[w.heap.size]? = some (.cells #[.slice ma mn mc, .slice ha hn hc] 25 (0, 0))) := Hr.heap_of_gr ((HG4.out _).trans G5) HM.out
          have R5 : Hid (w5.rangeAt (wr.heap.size) 1 (hL u.was)) := fun i v hv => by rw [cr HU5.out, List.getElem?_toArray]; exact HXe.out.2 i v hv
          have hl5 : wr.heap.size < w5.heap.size := (gs HU5.out).1
          clear G5 HS4 HG4 HM4 u0 HC1
          go_wp2_with (refine wpList_gload_mid (by rfl) 39 _ rfl wr.heap.size 1 rfl (hL u.was) _ ?r2 Try.underlying39 rfl (by rw [HHL.out]; exact iH) ?_; (case r2 => exact R5.out))
          refine (HMy.out _).mono ?_
          rintro e w6 ⟨rfl, G6⟩
          have HG6 : Hid (Gr w w6) := HG5.out.trans G6
          have HU6 : Hid (w6.heap[wr.heap.size]? = some (.cells x.toArray 45 (0, 0))) := Hr.heap_of_gr G6 HU5.out
          have HM6 : Hid (w6.heap[w.heap.size]? = some (.cells #[.slice ma mn mc, .slice ha hn hc] 25 (0, 0))) := Hr.heap_of_gr G6 HM5.out
          have m0 : w6.cell? ⟨w.heap.size, 0, none⟩ = some (.slice ma mn mc) := cr0 HM6.out
          clear G6 HG5 HU5 HM5 R5 HMy
          go_wp2_with fail
          go_ret
          exact ⟨retB HNo.out.symm, HG6.out⟩
        | true =>
          cases t3 with
          | false =>
            have HNo : Hid (us.all (fitU hn mn) = false) := HFl.out (by rw [HFu.out]; rfl)
            clear HFu HFl HNx
            go_wp2_with (first
              | (refine wpList_load_mid rfl 45 _ rfl b (o + j * 41) rfl x _ ?r1 Try.underlying45 rfl (by rw [HXL.out]; exact iU) ?_; (case r1 => exact RG.out))
              | (refine wpList_store_row rfl 45 _ _ rfl wr.heap.size x.toArray rfl rfl 45 _ (heap_alloc_new wr _) (by rw [HXA.out]; exact iU) (by rw [HXA.out]; rfl) HX1.out ?_))
            refine (HC1.out _ (HG.out.trans (HG4.out _)) (HM4.out _)).mono ?_
            rintro e w5 ⟨rfl, G5⟩
            have HG5 : Hid (Gr w w5) := HG.out.trans ((HG4.out _).trans G5)
            have HU5 : Hid (w5.heap[wr.heap.size]? = some (.cells x.toArray 45 (0, 0))) := Hr.heap_of_gr G5 (HS4.out _)
            have HM5 : Hid (w5.heap[w.heap.size]? = some (.cells #[.slice ma mn mc, .slice ha hn hc] 25 (0, 0))) := Hr.heap_of_gr ((HG4.out _).trans G5) HM.out
            have R5 : Hid (w5.rangeAt (wr.heap.size) 1 (hL u.was)) := fun i v hv => by rw [cr HU5.out, List.getElem?_toArray]; exact HXe.out.2 i v hv
            have hl5 : wr.heap.size < w5.heap.size := (gs HU5.out).1
            clear G5 HS4 HG4 HM4 u0 HC1
            go_wp2_with (refine wpList_gload_mid (by rfl) 39 _ rfl wr.heap.size 1 rfl (hL u.was) _ ?r2 Try.underlying39 rfl (by rw [HHL.out]; exact iH) ?_; (case r2 => exact R5.out))
            refine (HMy.out _).mono ?_
            rintro e w6 ⟨rfl, G6⟩
            have HG6 : Hid (Gr w w6) := HG5.out.trans G6
            have HU6 : Hid (w6.heap[wr.heap.size]? = some (.cells x.toArray 45 (0, 0))) := Hr.heap_of_gr G6 HU5.out
            have HM6 : Hid (w6.heap[w.heap.size]? = some (.cells #[.slice ma mn mc, .slice ha hn hc] 25 (0, 0))) := Hr.heap_of_gr G6 HM5.out
            have m0 : w6.cell? ⟨w.heap.size, 0, none⟩ = some (.slice ma mn mc) := cr0 HM6.out
            clear G6 HG5 HU5 HM5 R5 HMy
            go_wp2_with (refine wpList_gload_row (by rfl) 45 _ rfl wr.heap.size rfl 45 x.toArray (0, 0) _ ?r3 Try.underlying45 rfl (by rw [HXA.out]; exact iU) ?_; (case r3 => exact HU6.out))
            refine (HIn.out _ HG6.out).mono ?_
            rintro e w7 ⟨rfl, G7⟩
            have HG7 : Hid (Gr w w7) := HG6.out.trans G7
            have HU7 : Hid (w7.heap[wr.heap.size]? = some (.cells x.toArray 45 (0, 0))) := Hr.heap_of_gr G7 HU6.out
            have HM7 : Hid (w7.heap[w.heap.size]? = some (.cells #[.slice ma mn mc, .slice ha hn hc] 25 (0, 0))) := Hr.heap_of_gr G7 HM6.out
            clear G7 HG6 HU6 HM6 m0 HIn
            go_wp2_with fail
            go_ret
            exact ⟨retB HNo.out.symm, HG7.out⟩
          | true =>
            have HF4 : Hid (fitU hn mn u = u.lost.all fun q => decide (0 ≤ q.1 ∧ q.1 < (hn : Int))) := by unfold Hid; rw [HFu.out]; simp only [Bool.true_and]
            clear HFu
            go_wp2_with (first
              | (refine wpList_load_mid rfl 45 _ rfl b (o + j * 41) rfl x _ ?r1 Try.underlying45 rfl (by rw [HXL.out]; exact iU) ?_; (case r1 => exact RG.out))
              | (refine wpList_store_row rfl 45 _ _ rfl wr.heap.size x.toArray rfl rfl 45 _ (heap_alloc_new wr _) (by rw [HXA.out]; exact iU) (by rw [HXA.out]; rfl) HX1.out ?_))
            refine (HC1.out _ (HG.out.trans (HG4.out _)) (HM4.out _)).mono ?_
            rintro e w5 ⟨rfl, G5⟩
            have HG5 : Hid (Gr w w5) := HG.out.trans ((HG4.out _).trans G5)
            have HU5 : Hid (w5.heap[wr.heap.size]? = some (.cells x.toArray 45 (0, 0))) := Hr.heap_of_gr G5 (HS4.out _)
            have HM5 : Hid (w5.heap[w.heap.size]? = some (.cells #[.slice ma mn mc, .slice ha hn hc] 25 (0, 0))) := Hr.heap_of_gr ((HG4.out _).trans G5) HM.out
            have R5 : Hid (w5.rangeAt (wr.heap.size) 1 (hL u.was)) := fun i v hv => by rw [cr HU5.out, List.getElem?_toArray]; exact HXe.out.2 i v hv
            have hl5 : wr.heap.size < w5.heap.size := (gs HU5.out).1
            clear G5 HS4 HG4 HM4 u0 HC1
            go_wp2_with (refine wpList_gload_mid (by rfl) 39 _ rfl wr.heap.size 1 rfl (hL u.was) _ ?r2 Try.underlying39 rfl (by rw [HHL.out]; exact iH) ?_; (case r2 => exact R5.out))
            refine (HMy.out _).mono ?_
            rintro e w6 ⟨rfl, G6⟩
            have HG6 : Hid (Gr w w6) := HG5.out.trans G6
            have HU6 : Hid (w6.heap[wr.heap.size]? = some (.cells x.toArray 45 (0, 0))) := Hr.heap_of_gr G6 HU5.out
            have HM6 : Hid (w6.heap[w.heap.size]? = some (.cells #[.slice ma mn mc, .slice ha hn hc] 25 (0, 0))) := Hr.heap_of_gr G6 HM5.out
            have m0 : w6.cell? ⟨w.heap.size, 0, none⟩ = some (.slice ma mn mc) := cr0 HM6.out
            clear G6 HG5 HU5 HM5 R5 HMy
            go_wp2_with (refine wpList_gload_row (by rfl) 45 _ rfl wr.heap.size rfl 45 x.toArray (0, 0) _ ?r3 Try.underlying45 rfl (by rw [HXA.out]; exact iU) ?_; (case r3 => exact HU6.out))
            refine (HIn.out _ HG6.out).mono ?_
            rintro e w7 ⟨rfl, G7⟩
            have HG7 : Hid (Gr w w7) := HG6.out.trans G7
            have HU7 : Hid (w7.heap[wr.heap.size]? = some (.cells x.toArray 45 (0, 0))) := Hr.heap_of_gr G7 HU6.out
            have HM7 : Hid (w7.heap[w.heap.size]? = some (.cells #[.slice ma mn mc, .slice ha hn hc] 25 (0, 0))) := Hr.heap_of_gr G7 HM6.out
            clear G7 HG6 HU6 HM6 m0 HIn
            have k40 : w7.cell? ⟨wr.heap.size, 40, none⟩ = some (.slice l1 l2 l3) := (cr HU7.out).trans (by rw [List.getElem?_toArray]; exact HX40.out)
            have HLL : Hid (u.lost.length = l2) := HLS.out.len
            go_wp2_with fail
            go_loopw [38] (fun i ws => ∃ q : Nat, q ≤ l2 ∧ i = .int .i64 q ∧ (u.lost.take q).all (fun q => decide (0 ≤ q.1 ∧ q.1 < (hn : Int))) = true ∧ Gr w ws ∧ ws.heap[w.heap.size]? = some (.cells #[.slice ma mn mc, .slice ha hn hc] 25 (0, 0))) (fun i _ => l2 - (intOf i).toNat)
            case atStart => exact ⟨0, Nat.zero_le _, rfl, rfl, HG7.out, HM7.out⟩
            case round =>
              obtain ⟨q, hq', rfl, hall, G, KM⟩ := hrel
              have HAq : Hid ((u.lost.take q).all (fun q => decide (0 ≤ q.1 ∧ q.1 < (hn : Int))) = true) := hall
              have HGq : Hid (Gr w wr) := G
              have HMq : Hid (wr.heap[w.heap.size]? = some (.cells #[.slice ma mn mc, .slice ha hn hc] 25 (0, 0))) := KM
              clear hall G KM k40 HU7
              by_cases hlq : q < l2
              · obtain ⟨p, hp⟩ : ∃ p, u.lost[q]? = some p := ⟨_, List.getElem?_eq_getElem (by rw [HLL.out]; exact hlq)⟩
                obtain ⟨b7, o7, rfl, hb7, hc7⟩ := HLS.out.spot (by omega)
                have z0 : wr.cell? ⟨b7, o7 + q * 2, none⟩ = some (.int .i64 p.1) := (HGq.out.cell _ (by exact hb7)).trans (hc7 q p hp).1
                have z1 : wr.cell? ⟨b7, o7 + q * 2 + 1, none⟩ = some (.int .u32 p.2) := (HGq.out.cell _ (by exact hb7)).trans (hc7 q p hp).2
                have HCq : Hid (∀ W : World, Gr w W → W.heap[w.heap.size]? = some (.cells #[.slice ma mn mc, .slice ha hn hc] 25 (0, 0)) → Calls Try.prog 18 #[.int .i64 p.1, .pointer (some ⟨w.heap.size, 0, none⟩)] W fun e w' => e = .returned (.bool (decide (0 ≤ p.1 ∧ p.1 < hn))) ∧ Gr W w') := HC.out p.1
                have HTq : Hid ((u.lost.take (q + 1)).all (fun q => decide (0 ≤ q.1 ∧ q.1 < (hn : Int))) = ((u.lost.take q).all (fun q => decide (0 ≤ q.1 ∧ q.1 < (hn : Int))) && decide (0 ≤ p.1 ∧ p.1 < (hn : Int)))) := all_take _ _ _ _ hp
                have HNq : Hid (decide (0 ≤ p.1 ∧ p.1 < (hn : Int)) = false → us.all (fitU hn mn) = false) := fun h => HFl.out (by rw [HF4.out]; exact all_no hp h)
                clear hc7 hp
                obtain ⟨p1, p2⟩ := p
                simp only at *
                generalize decide (0 ≤ p1 ∧ p1 < (hn : Int)) = t5 at HCq HTq HNq
                cases t5 with
                | false =>
                  have HNo : Hid (us.all (fitU hn mn) = false) := HNq.out rfl
                  clear HNq HTq
                  go_wp2_with fail
                  refine (HCq.out _ (HGq.out.alloc _) (Hr.heap_of_gr ((Gr.refl _).alloc _) HMq.out)).mono ?_
                  rintro e w8 ⟨rfl, G8⟩
                  have HG8 : Hid (Gr w w8) := (HGq.out.alloc _).trans G8
                  clear G8 HCq z0 z1
                  go_wp2_with fail
                  go_ret
                  exact ⟨retB HNo.out.symm, HG8.out⟩
                | true =>
                  clear HNq
                  go_wp2_with fail
                  refine (HCq.out _ (HGq.out.alloc _) (Hr.heap_of_gr ((Gr.refl _).alloc _) HMq.out)).mono ?_
                  rintro e w8 ⟨rfl, G8⟩
                  have HG8 : Hid (Gr w w8) := (HGq.out.alloc _).trans G8
                  have HM8 : Hid (w8.heap[w.heap.size]? = some (.cells #[.slice ma mn mc, .slice ha hn hc] 25 (0, 0))) := Hr.heap_of_gr (((Gr.refl _).alloc _).trans G8) HMq.out
                  clear G8 HCq z0 z1
                  go_wp2_with fail
                  go_roundw
                  case rel => exact ⟨q + 1, by omega, by go_num, by rw [HTq.out, HAq.out]; rfl, HG8.out, HM8.out⟩
                  case measure => simp [intOf]; omega
              · have HYe : Hid ((us.take (j + 1)).all (fitU hn mn) = true) := by
                  unfold Hid
                  rw [HNx.out, HA.out, HF4.out]
                  have := HAq.out
                  rwa [List.take_of_length_le (by rw [HLL.out]; omega)] at this
                clear HAq HNx HFl HF4
                go_wp2_with fail
                go_roundw
                case rel => exact ⟨j + 1, by omega, by go_num, HYe.out, HGq.out, HMq.out⟩
                case measure => simp [intOf]; omega
    · have HYe : Hid (us.all (fitU hn mn) = true) := by
        have := HA.out
        rwa [List.take_of_length_le (by rw [HL.out]; omega)] at this
      clear HA
      go_wp2_with fail
      go_ret
      exact ⟨retB HYe.out.symm, HG.out⟩
end Go.Proofs.Ytphklaefhpoimac.Ud
/-
  A recorder of package undo, as cells of memory ('Rw'): a board, and a row of Undos of its own; how Undos are built, and a slice of one.
-/
namespace Go.Proofs.Ytphklaefhpoimac.Ud
open Go.ChangeShapes Go.WideShapes Go.ChangeAt Go.RowKit Mm Hh Hc Mc
set_option linter.unusedVariables false
set_option linter.unusedSimpArgs false

set_option maxRecDepth 100000 in
theorem built_undo {h : Hv} (o : h.Ok) (k : Int) : Try.prog.built 45 [(0, .int .i64 k), (1, .agg (hL h).toArray)] = some (uL ⟨k, h, 0, [], []⟩ nilS nilS).toArray := by
  obtain ⟨it, hi, hz⟩ := info_zero zU
  have hp : ∀ fs, Try.prog.underlying 45 = some (.struct fs) → fs.toList.mapM (fun f => (Try.prog.info? f.type).map fun i => (f.offset, i.size)) = some [(0, 1), (1, 37), (38, 1), (39, 1), (40, 1)] := fun fs e => by
    rw [Try.underlying45] at e
    injection e with e
    injection e with e
    subst e
    kernel_rfl
  have ls := hL_len o
  have z1 : (uL h00 nilS nilS).toArray.size = 41 := by simp [uL_len (u := h00) h0_ok]
  unfold Program.built
  simp only [hi, Try.underlying45, hz, hp _ Try.underlying45]
  unfold Instr.fill
  simp only [List.getElem?_toArray, List.getElem?_cons_zero]
  have e0 : (Value.int .i64 k).cells = #[.int .i64 k] := rfl
  have e1 : (Value.agg (hL h).toArray).cells = (hL h).toArray := rfl
  have e2 : (Value.agg (uL h00 nilS nilS).toArray).cells = (uL h00 nilS nilS).toArray := rfl
  rw [e0, e2, if_neg (by simp [uL_len (u := h00) h0_ok]), fold_one]
  unfold Instr.fill
  simp only [List.getElem?_toArray, List.getElem?_cons_succ, List.getElem?_cons_zero]
  rw [e1, if_neg (by simp [ls, uL_len (u := h00) h0_ok])]
  unfold Instr.fill
  refine congrArg some ?_
  apply Array.ext_getElem?
  intro i
  have a1 := fold_set 1 (hL h).toArray ((uL h00 nilS nilS).toArray.setIfInBounds 0 (.int .i64 k))
  rw [a1.2 i]
  simp only [Array.size_setIfInBounds, z1, List.size_toArray, ls]
  by_cases hi2 : 1 ≤ i ∧ i < 38
  · rw [if_pos (by omega)]
    obtain ⟨j, rfl⟩ : ∃ j, i = 1 + j := ⟨i - 1, by omega⟩
    rw [List.getElem?_toArray, List.getElem?_toArray, uL_was (u := ⟨k, h, 0, [], []⟩) o (by omega), Nat.add_sub_cancel_left]
  · rw [if_neg (by omega), Array.getElem?_setIfInBounds]
    by_cases h0' : i = 0
    · subst h0'
      rw [if_pos rfl, if_pos (by rw [z1]; omega)]
      rfl
    · rw [if_neg (fun e => h0' e.symm)]
      obtain ⟨j, rfl⟩ : ∃ j, i = 38 + j := ⟨i - 38, by omega⟩
      rw [List.getElem?_toArray, List.getElem?_toArray, uL_fld (u := h00) h0_ok, uL_fld (u := ⟨k, h, 0, [], []⟩) o]
      rfl
/-- A slice of one struct. -/
theorem fill_one {n : Nat} {A Z : Array Value} (hA : A.size = n) (hZ : Z.size = n) : Instr.fill (fun i => some (i * n, n)) Z [(0, .agg A)] = some A := by
  unfold Instr.fill
  simp only [Nat.zero_mul]
  have e1 : (Value.agg A).cells = A := rfl
  rw [e1, if_neg (by simp [hA, hZ])]
  unfold Instr.fill
  refine congrArg some ?_
  apply Array.ext_getElem?
  intro i
  have a1 := fold_set 0 A Z
  rw [a1.2 i]
  by_cases hi : i < n
  · rw [if_pos (by omega)]; simp
  · rw [if_neg (by omega), Array.getElem?_eq_none (by omega), Array.getElem?_eq_none (by omega)]
theorem step_slice1 {P : Program} {ops : Array Oper} {o : Oper} {a : Act} {w : World} {K : Act → World → Prop} {Q : Exit → Act → World → Prop} {E : Prop} (hg : o.guard = none) (t e : TypeId) (x : Operand) (ho : o.op = .buildSlice t 1 #[(0, x)])
    (A : Array Value) (n : Nat) (hx : a.eval x = .agg A) (hA : A.size = n) (hu : P.underlying t = some (.slice e)) (hi : (P.info? e).map (fun i => (i.zero.isSome, i.size)) = some (true, n)) (h0 : 0 < n) (hn : n ≤ 1000)
    (h : K (a.put o.dst (.slice (some ⟨w.heap.size, 0, none⟩) 1 1)) (w.alloc (.cells A e))) : if Region.wanted o (yielded ops a.tmps) = true then Oper.wp P o a w K Q else E := by
  rw [if_pos (by simp [Region.wanted, hg])]
  cases hie : P.info? e with
  | none => simp [hie] at hi
  | some ie =>
    simp only [hie, Option.map_some, Option.some.injEq, Prod.mk.injEq] at hi
    obtain ⟨hz, hs⟩ := hi
    obtain ⟨z, hzz⟩ := Option.isSome_iff_exists.1 hz
    refine wp_buildSlice t e 1 _ ho A ie z hu hie hzz (by rw [hs]; omega) (by rw [hs]; omega) ?_ h
    simp only [List.map_toArray, List.map_cons, List.map_nil, hx, hs, Nat.one_mul]
    exact fill_one hA (by simp)
theorem wpList_slice1 {P : Program} {ops : Array Oper} {rest : List Oper} {o : Oper} {a : Act} {w : World} {Q : Exit → Act → World → Prop} (hg : o.guard = none) (t e : TypeId) (x : Operand) (ho : o.op = .buildSlice t 1 #[(0, x)])
    (A : Array Value) (n : Nat) (hx : a.eval x = .agg A) (hA : A.size = n) (hu : P.underlying t = some (.slice e)) (hi : (P.info? e).map (fun i => (i.zero.isSome, i.size)) = some (true, n)) (h0 : 0 < n) (hn : n ≤ 1000)
    (h : wpList P ops Q rest (a.put o.dst (.slice (some ⟨w.heap.size, 0, none⟩) 1 1)) (w.alloc (.cells A e))) : wpList P ops Q (o :: rest) a w :=
  wpList_plain hg fun K hK => by
    have := step_slice1 (ops := #[]) (E := True) (Q := Q) hg t e x ho A n hx hA hu hi h0 hn (hK _ _ h)
    rwa [if_pos (by simp [Region.wanted, hg])] at this
theorem iUz : (Try.prog.info? 45).map (fun i => (i.zero.isSome, i.size)) = some (true, 41) := by kernel_rfl
theorem uL_set38 {u : Uv} {b l : Value} (o : u.was.Ok) (f : Int) : (uL u b l).toArray.setIfInBounds 38 (.int .u32 f) = (uL { u with fr := f } b l).toArray := by
  have := hL_len o
  unfold uL
  rw [List.setIfInBounds_toArray, List.set_cons_succ, List.set_append_right _ _ (by omega), this]
  rfl
theorem uL_set39 {u : Uv} {b l b' : Value} (o : u.was.Ok) : (uL u b l).toArray.setIfInBounds 39 b' = (uL u b' l).toArray := by
  have := hL_len o
  unfold uL
  rw [List.setIfInBounds_toArray, List.set_cons_succ, List.set_append_right _ _ (by omega), this]
  rfl
theorem uL_set40 {u : Uv} {b l l' : Value} (o : u.was.Ok) : (uL u b l).toArray.setIfInBounds 40 l' = (uL u b l').toArray := by
  have := hL_len o
  unfold uL
  rw [List.setIfInBounds_toArray, List.set_cons_succ, List.set_append_right _ _ (by omega), this]
  rfl

section
variable {w w' a b c : World} {base g gh hc : Nat} {M O U : Value} {xs : List Value} {s : Sh} {us : List Uv}
end
theorem atW {p : World → Prop} {x : World} (F : World → Prop) (hF : F x) (h : ∀ y, F y → p y) : p x := h x hF
theorem szC (w : World) (p : Addr) (v : Value) : (w.setCell p v).heap.size = w.heap.size := by simp
structure One (P : Prop) : Prop where
  out : P
theorem shareP {P Q : Prop} (h : One P → Q) (p : P) : Q := h ⟨p⟩
end Go.Proofs.Ytphklaefhpoimac.Ud
