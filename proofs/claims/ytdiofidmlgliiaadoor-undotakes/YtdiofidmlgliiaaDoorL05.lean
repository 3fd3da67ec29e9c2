/-
  Mb7, Uq, Mb8, Mb9, Ur: texts of ours that lie in one file.
-/
import Derived.Test.YtdiofidmlgliiaaDoorL04
import Derived.Laws.OwnMore
import Derived.Test.YtdiofidmlgliiaaDoorL01
import Derived.Deep.RegionWith
/-
  append from whatever slice, nil or not; what a board keeps while its harts, its memory, what came out and its steps are set.
-/
namespace Go.Proofs.YtdiofidmlgliiaaDoor.Mc
open Go.ChangeShapes Go.WideShapes Go.ChangeAt Go.RowKit Mm Hh Hc
set_option linter.unusedVariables false
set_option linter.unusedSimpArgs false

variable {ty : Nat} {rs : List Value}
/-- The slice vx, nil or not, reads as m elements of sz cells: news. -/
def Src (w : World) (vx : Value) (m sz : Nat) (news : List Value) : Prop :=
  (vx = .slice none 0 0 ∧ m = 0 ∧ news = []) ∨ ∃ ad c, vx = .slice (some ad) m c ∧ news.length = m * sz ∧ ∀ j u, news[j]? = some u → w.cell? (ad.add j) = some u
theorem Src.own {w : World} {base e sz n : Nat} {v : Value} {xs : List Value} (h : w.ownsRow base e sz v n xs) : Src w v n sz xs := by
  obtain ⟨hl, h⟩ := h
  rcases h with ⟨rfl, rfl⟩ | ⟨g, cap, cur, rfl, _, hg, _, _, _, ht⟩
  · exact .inl ⟨rfl, rfl, List.eq_nil_of_length_eq_zero (by simpa using hl)⟩
  · refine .inr ⟨_, cap, rfl, hl, fun j u hj => ?_⟩
    rw [add_at, Nat.zero_add, cr hg]
    rw [← ht] at hj
    rw [List.getElem?_take] at hj
    split at hj
    · simpa using hj
    · cases hj
theorem Src.gr {w w' : World} {vx : Value} {m sz : Nat} {news : List Value} (h : Src w vx m sz news) (G : Gr w w') : Src w' vx m sz news := by
  rcases h with h | ⟨ad, c, e, hl, hc⟩
  · exact .inl h
  · exact .inr ⟨ad, c, e, hl, fun j u hj => (G.cell _ (World.block_lt_of_cell? w _ (hc j u hj))).trans (hc j u hj)⟩
section
variable {P : Program} {w : World} {base e size bytes n m : Nat} {i : TypeInfo} {z : Value} {t : TypeId}
theorem run_append_src (ty : TypeId) (h1 : P.underlying t = some (.slice e)) (h2 : P.info? e = some i) (h3 : i.zero = some z) (h4 : i.size = size) (h5 : i.bytes = bytes) (h6 : z.cells.size = size) (h7 : 0 < size)
    {v vx : Value} {olds news : List Value} (hown : w.ownsRow base e size v n olds) (hsrc : Src w vx m size news) (h1c : ∀ u ∈ news, u.oneCell' = true) (b1 : n + m ≤ maxLen) (b2 : (n + m) * bytes ≤ 140737488355328) (hbase : base ≤ w.heap.size) :
    ∃ v' w', (Builtin.append_ #[t, t] ty #[v, vx]).run P w = .ok v' w' ∧ w'.ownsRow base e size v' (n + m) (olds ++ news) ∧ w.grownBy w' v.ownBlock := by
  rcases hsrc with ⟨rfl, rfl, rfl⟩ | ⟨ad, c, rfl, hl, hc⟩
  · exact ⟨v, w, run_append_owned_none w base t ty e i size h1 h2 v n olds hown, by simpa using hown, ⟨rfl, rfl, rfl, Nat.le_refl _, fun _ _ _ => rfl⟩⟩
  · obtain ⟨v', w', hrun, r1, r2, _⟩ := run_append_own (P := P) w base t ty e i z size bytes h1 h2 h3 h4 h5 h6 h7 v n olds hown ad m c news hl hc h1c b1 b2 hbase
    exact ⟨v', w', hrun, r1, r2⟩
theorem step_append_src {ops : Array Oper} {o : Oper} {a : Act} {K : Act → World → Prop} {Q : Exit → Act → World → Prop} {E : Prop}
    (hg : o.guard = none) (s x : Operand) (hop : o.op = Op.call { callee := Callee.builtin Builtin.append, args := #[s, x], argTypes := #[t, t] })
    (h1 : P.underlying t = some (.slice e)) (h2 : P.info? e = some i) (h3 : i.zero = some z) (h4 : i.size = size) (h5 : i.bytes = bytes) (h6 : z.cells.size = size) (h7 : 0 < size)
    {v vx : Value} {olds news : List Value} (hs : a.eval s = v) (hx : a.eval x = vx) (hown : w.ownsRow base e size v n olds) (hsrc : Src w vx m size news) (h1c : ∀ u ∈ news, u.oneCell' = true) (b1 : n + m ≤ maxLen) (b2 : (n + m) * bytes ≤ 140737488355328) (hbase : base ≤ w.heap.size)
    (hK : ∀ v' w', w'.ownsRow base e size v' (n + m) (olds ++ news) → w.grownBy w' v.ownBlock → K (a.put o.dst v') w') :
    if Region.wanted o (yielded ops a.tmps) = true then Oper.wp P o a w K Q else E := by
  have hw : Region.wanted o (yielded ops a.tmps) = true := by simp [Region.wanted, hg]
  rw [if_pos hw]
  obtain ⟨v', w', hrun, r1, r2⟩ := run_append_src (P := P) o.type h1 h2 h3 h4 h5 h6 h7 hown hsrc h1c b1 b2 hbase
  unfold Oper.wp
  simp [execOp, hop, resolve, invoke, builtin, hs, hx, hrun, Result.andThen]
  exact hK v' w' r1 r2
theorem wpList_append_src {ops : Array Oper} {rest : List Oper} {o : Oper} {a : Act} {Q : Exit → Act → World → Prop}
    (hg : o.guard = none) (s x : Operand) (hop : o.op = Op.call { callee := Callee.builtin Builtin.append, args := #[s, x], argTypes := #[t, t] })
    (h1 : P.underlying t = some (.slice e)) (h2 : P.info? e = some i) (h3 : i.zero = some z) (h4 : i.size = size) (h5 : i.bytes = bytes) (h6 : z.cells.size = size) (h7 : 0 < size)
    {v vx : Value} {olds news : List Value} (hs : a.eval s = v) (hx : a.eval x = vx) (hown : w.ownsRow base e size v n olds) (hsrc : Src w vx m size news) (h1c : ∀ u ∈ news, u.oneCell' = true) (b1 : n + m ≤ maxLen) (b2 : (n + m) * bytes ≤ 140737488355328) (hbase : base ≤ w.heap.size)
    (hK : ∀ v' w', w'.ownsRow base e size v' (n + m) (olds ++ news) → w.grownBy w' v.ownBlock → wpList P ops Q rest (a.put o.dst v') w') : wpList P ops Q (o :: rest) a w := by
  refine wpList_plain hg fun K hk => ?_
  obtain ⟨v', w', hrun, r1, r2⟩ := run_append_src (P := P) o.type h1 h2 h3 h4 h5 h6 h7 hown hsrc h1c b1 b2 hbase
  unfold Oper.wp
  simp [execOp, hop, resolve, invoke, builtin, hs, hx, hrun, Result.andThen]
  exact hk _ _ (hK v' w' r1 r2)
end
theorem step_store_mid {P : Program} {ops : Array Oper} {o : Oper} {a : Act} {w : World} {K : Act → World → Prop} {Q : Exit → Act → World → Prop} {E : Prop} (hg : o.guard = none) (ty : TypeId) (x y : Operand) (ho : o.op = .store ty x y)
    (b j : Nat) (cells : Array Value) (hx : a.eval x = .pointer (some ⟨b, j, none⟩)) (hy : a.eval y = .agg cells) (ht : w.there b j cells.size) (hi : (P.info? ty).map (·.size) = some cells.size) (h1 : cells.all (·.oneCell') = true)
    (h : K (a.put o.dst undef) (w.setCells b j cells.toList)) : if Region.wanted o (yielded ops a.tmps) = true then Oper.wp P o a w K Q else E := by
  rw [if_pos (by simp [Region.wanted, hg])]
  exact wp_store_mid ty x y ho b j cells hx hy ht hi h1 h
theorem held_store_mid {P : Program} {md : Region.Mode} {ops : Array Oper} {Q : Exit → Act → World → Prop} {S : World → Prop} {fuel i : Nat} {listed : Array Bool} {o : Oper} {a : Act} {w : World} (hr : Region.ready md ops listed = [i]) (hoi : ops[i]? = some o) (hg : o.guard = none) (ty : TypeId) (x y : Operand) (ho : o.op = .store ty x y)
    (b j : Nat) (cells : Array Value) (hx : a.eval x = .pointer (some ⟨b, j, none⟩)) (hy : a.eval y = .agg cells) (ht : w.there b j cells.size) (hi : (P.info? ty).map (·.size) = some cells.size) (h1 : cells.all (·.oneCell') = true)
    (hS : S (w.setCells b j cells.toList)) (h : wpAnyH P md ops Q S fuel (listed.setIfInBounds i true) (a.put o.dst undef) (w.setCells b j cells.toList)) : wpAnyH P md ops Q S (fuel + 1) listed a w :=
  wpAnyH_ready hr (by simp) (AllReadyH.cons hoi (fun K hK => step_store_mid hg ty x y ho b j cells hx hy ht hi h1 (hK.out _ _ hS fun _ => h)) AllReadyH.nil)
theorem words_one (os : List Int) : ∀ u ∈ os.map (Value.int .u32), u.oneCell' = true := by
  intro u hu
  obtain ⟨b, _, rfl⟩ := List.mem_map.1 hu
  rfl
theorem infoW : (Tryd.prog.info? 59).map (fun i => (i.zero, i.size, i.bytes)) = some (some (Value.int .u32 0), 1, 4) := by kernel_rfl

/-- Only the harts' block has turned: what is of another type is as it was. -/
theorem ch_keep {w w' : World} {gh : Nat} {hs : List Hv} (R : HRow w gh hs) (q : Ch gh w w') {t : Nat} (ht : t ≠ 70) {k : Nat} {o : Array Value} {f : Nat × Nat} (hk : w.heap[k]? = some (.cells o t f)) : w'.heap[k]? = w.heap[k]? := by
  obtain ⟨rest, e⟩ := R.row
  exact q.block k (gs hk).1 (fun h => ne_of_types hk e ht (by injection h))
theorem Bw.ch {w w' : World} {base g gh hc : Nat} {M O : Value} {s : Sh} (B : Bw ty rs w base g M gh hc O s) (q : Ch gh w w') {hs : List Hv} (R : HRow w' gh hs) (hl : hs.length = s.hs.length) : Bw ty rs w' base g M gh hc O ⟨hs, s.m, s.out, s.steps⟩ :=
  ⟨B.t1, B.t2, B.t3, B.bg, by show w'.heap[g]? = some (.cells (M :: .slice (some ⟨gh, 0, none⟩) hs.length hc :: O :: .int .i64 s.steps :: rs).toArray _ _); rw [hl]; exact (ch_keep B.row q B.t3 B.blk).trans B.blk, B.mem.to fun k o f hk => ch_keep B.row q (by decide) hk, B.bh, R, owns_to B.out fun k o f hk => ch_keep B.row q (by decide) hk⟩
theorem Dq.ch {w w' : World} {b gh : Nat} {d : Qv} {x : Wk} {hs : List Hv} (D : Dq w b d x) (R : HRow w gh hs) (q : Ch gh w w') : Dq w' b d x :=
  ⟨D.hh, D.n, D.mem.to fun k o f hk => ch_keep R q (by decide) hk, owns_to D.out fun k o f hk => ch_keep R q (by decide) hk, owns_to D.sto fun k o f hk => ch_keep R q (by decide) hk⟩
theorem Ch.ofGr {g : Nat} {w w' : World} (G : Gr w w') : Ch g w w' := (Ch.refl g w).gr G
theorem Dq.gr {w w' : World} {b : Nat} {d : Qv} {x : Wk} (D : Dq w b d x) (G : Gr w w') : Dq w' b d x :=
  ⟨D.hh, D.n, own_gr D.mem G, owns_gr D.out G, owns_gr D.sto G⟩
theorem Ch.setCells {g : Nat} {a w : World} (h : Ch g a w) : ∀ (vs : List Value) (o : Nat), Ch g a (w.setCells g o vs)
  | [], o => h
  | v :: r, o => by rw [World.setCells]; exact Ch.setCells (h.setCell o v) r (o + 1)
theorem Bw.fz {w : World} {base g gh hc : Nat} {M O : Value} {s : Sh} (B : Bw ty rs w base g M gh hc O s) (i : Nat) : w.frozen? ⟨g, i, none⟩ = false := fzr B.blk
theorem Bw.base_le {w : World} {base g gh hc : Nat} {M O : Value} {s : Sh} (B : Bw ty rs w base g M gh hc O s) : base ≤ w.heap.size := Nat.le_trans B.bg (Nat.le_of_lt (gs B.blk).1)
/-- A cell of the board's own block set: what is of another type is as it was. -/
theorem bw_other {w : World} {base g gh hc : Nat} {M O : Value} {s : Sh} (B : Bw ty rs w base g M gh hc O s) (i : Nat) (v : Value) {t : Nat} (ht : t ≠ ty) {k : Nat} {o : Array Value} {f : Nat × Nat} (hk : w.heap[k]? = some (.cells o t f)) : (w.setCell ⟨g, i, none⟩ v).heap[k]? = w.heap[k]? :=
  hso (by exact ne_of_types hk B.blk ht)
theorem HRow.to {w w' : World} {g : Nat} {hs : List Hv} (r : HRow w g hs) (h : ∀ (k : Nat) (o : Array Value) (f : Nat × Nat), w.heap[k]? = some (.cells o 70 f) → w'.heap[k]? = w.heap[k]?) : HRow w' g hs := by
  obtain ⟨rest, e⟩ := r.row
  exact ⟨r.ok, rest, (h _ _ _ e).trans e⟩
theorem Bw.setM {w : World} {base g gh hc : Nat} {M O : Value} {s : Sh} (B : Bw ty rs w base g M gh hc O s) {M' : Value} {m' : List UInt8} (h : Own w 0 M' m') : Bw ty rs (w.setCell ⟨g, 0, none⟩ M') base g M' gh hc O ⟨s.hs, m', s.out, s.steps⟩ :=
  ⟨B.t1, B.t2, B.t3, B.bg, by rw [hss B.blk]; simp, h.to fun k o f hk => bw_other B _ _ B.t1.symm hk, B.bh, B.row.to fun k o f hk => bw_other B _ _ B.t3.symm hk, owns_to B.out fun k o f hk => bw_other B _ _ B.t2.symm hk⟩
theorem Bw.setN {w : World} {base g gh hc : Nat} {M O : Value} {s : Sh} (B : Bw ty rs w base g M gh hc O s) (n' : Nat) : Bw ty rs (w.setCell ⟨g, 3, none⟩ (.int .i64 n')) base g M gh hc O ⟨s.hs, s.m, s.out, n'⟩ :=
  ⟨B.t1, B.t2, B.t3, B.bg, by rw [hss B.blk]; simp, B.mem.to fun k o f hk => bw_other B _ _ B.t1.symm hk, B.bh, B.row.to fun k o f hk => bw_other B _ _ B.t3.symm hk, owns_to B.out fun k o f hk => bw_other B _ _ B.t2.symm hk⟩
/-- A cell behind the board set. -/
theorem Bw.setR {w : World} {base g gh hc : Nat} {M O : Value} {s : Sh} (B : Bw ty rs w base g M gh hc O s) (i : Nat) (v : Value) : Bw ty (rs.set i v) (w.setCell ⟨g, 4 + i, none⟩ v) base g M gh hc O s :=
  ⟨B.t1, B.t2, B.t3, B.bg, by rw [hss B.blk, List.setIfInBounds_toArray, Nat.add_comm]; rfl, B.mem.to fun k o f hk => bw_other B _ _ B.t1.symm hk, B.bh, B.row.to fun k o f hk => bw_other B _ _ B.t3.symm hk, owns_to B.out fun k o f hk => bw_other B _ _ B.t2.symm hk⟩
/-- What a board's method leaves: of what lay below 'base' nothing has turned, nor any block but those of type ty, of harts or of words. -/
structure Fe (ty : Nat) (base : Nat) (w w' : World) : Prop where
  below : Below base w w'
  keep : ∀ (k : Nat) (o : Obj), w.heap[k]? = some o → (∀ q f, ¬ o = .cells q ty f) → (∀ q f, ¬ o = .cells q 70 f) → (∀ q f, ¬ o = .cells q 59 f) → w'.heap[k]? = some o
theorem Fe.refl (base : Nat) (w : World) : Fe ty base w w := ⟨Below.refl _ _, fun _ _ h _ _ _ => h⟩
theorem Fe.trans {base : Nat} {a b c : World} (h : Fe ty base a b) (k : Fe ty base b c) : Fe ty base a c := ⟨h.below.trans k.below, fun i o e t1 t2 t3 => k.keep i o (h.keep i o e t1 t2 t3) t1 t2 t3⟩
theorem Fe.ofGr {base : Nat} {w w' : World} (G : Gr w w') (hb : base ≤ w.heap.size) : Fe ty base w w' := ⟨Below.mono G hb, fun i o e _ _ _ => (G.block i (gs e).1).trans e⟩
theorem Fe.gr {base : Nat} {a w w' : World} (h : Fe ty base a w) (G : Gr w w') (hb : base ≤ w.heap.size) : Fe ty base a w' := h.trans (Fe.ofGr G hb)
theorem Fe.drew {base : Nat} {a w : World} (h : Fe ty base a w) : Fe ty base a w.drew := ⟨h.below.drew, h.keep⟩
theorem Fe.ch {base : Nat} {w w' : World} {gh : Nat} {hs : List Hv} (R : HRow w gh hs) (q : Ch gh w w') (hg : base ≤ gh) (hb : base ≤ w.heap.size) : Fe ty base w w' := ⟨q.below hg hb, fun i o e _ t2 _ => by
  obtain ⟨rest, e2⟩ := R.row
  refine (q.block i (gs e).1 (fun h => ?_)).trans e
  injection h with h
  subst h
  rw [e2] at e
  injection e with e
  exact t2 _ _ e.symm⟩
theorem Fe.setCell {base : Nat} {a w : World} {g : Nat} {Y : Array Value} {f : Nat × Nat} (h : Fe ty base a w) (hy : w.heap[g]? = some (.cells Y ty f)) (hg : base ≤ g) (i : Nat) (v : Value) : Fe ty base a (w.setCell ⟨g, i, none⟩ v) := ⟨Below.setCell h.below (by exact hg) _, fun k o e t1 t2 t3 => by
  have e2 := h.keep k o e t1 t2 t3
  rw [hso (by
    show k ≠ g
    intro ek
    subst ek
    rw [hy] at e2
    injection e2 with e2
    exact t1 _ _ e2.symm)]
  exact e2⟩
theorem Fe.grown {base : Nat} {w w' : World} {O : Value} {n : Nat} {xs : List Value} (hO : w.ownsRow base 59 1 O n xs) (q : w.grownBy w' O.ownBlock) (hb : base ≤ w.heap.size) : Fe ty base w w' := ⟨(Below.refl base w).grown q hb fun k e => (hO.lt k e).1, fun k o e _ _ t3 => (q.block k (gs e).1 (fun h => by
    rcases hO.2 with ⟨h0, _⟩ | ⟨g', cap, cur, hv, _, hg, _⟩
    · rw [h0] at h; cases h
    · rw [hv] at h
      injection h with h
      subst h
      rw [hg] at e
      injection e with e
      exact t3 _ _ e.symm)).trans e⟩
/-- A block of cells of another type stays. -/
theorem Fe.cells {base : Nat} {w w' : World} (h : Fe ty base w w') {k : Nat} {q : Array Value} {t : Nat} {f : Nat × Nat} (e : w.heap[k]? = some (.cells q t f)) (t1 : t ≠ ty) (t2 : t ≠ 70) (t3 : t ≠ 59) : w'.heap[k]? = w.heap[k]? :=
  (h.keep k _ e (fun _ _ c => t1 (by injection c)) (fun _ _ c => t2 (by injection c)) (fun _ _ c => t3 (by injection c))).trans e.symm
/-- What came out, appended to: behind the append, and behind the store. -/
theorem grown_keep {w w' : World} {base : Nat} {O : Value} {n : Nat} {xs : List Value} {e sz : Nat} (hO : w.ownsRow base e sz O n xs) (q : w.grownBy w' O.ownBlock) {t : Nat} (ht : t ≠ e) {k : Nat} {o : Array Value} {f : Nat × Nat} (hk : w.heap[k]? = some (.cells o t f)) : w'.heap[k]? = w.heap[k]? :=
  q.block k (gs hk).1 (fun h => by
    rcases hO.2 with ⟨h0, _⟩ | ⟨g', cap, cur, hv, _, hg, _⟩
    · rw [h0] at h; cases h
    · rw [hv] at h
      injection h with h
      exact ne_of_types hk hg ht h)
theorem Bw.grown {w w' : World} {base g gh hc : Nat} {M O : Value} {s : Sh} (B : Bw ty rs w base g M gh hc O s) (q : w.grownBy w' O.ownBlock) {v : Value} {os : List Int} (ho : w'.ownsRow base 59 1 v os.length (os.map (Value.int .u32))) :
    w'.cell? ⟨g, 2, none⟩ = some O ∧ w'.frozen? ⟨g, 2, none⟩ = false ∧ Bw ty rs (w'.setCell ⟨g, 2, none⟩ v) base g M gh hc v ⟨s.hs, s.m, os, s.steps⟩ ∧ Fe ty base w (w'.setCell ⟨g, 2, none⟩ v) := by
  have st : ∀ {t : Nat}, t ≠ 59 → ∀ {k : Nat} {o : Array Value} {f : Nat × Nat}, w.heap[k]? = some (.cells o t f) → w'.heap[k]? = w.heap[k]? := fun ht _ _ _ hk => grown_keep B.out q ht hk
  have hb := (st B.t2 B.blk).trans B.blk
  have ne : ∀ {t : Nat}, t ≠ ty → ∀ {k : Nat} {o : Array Value} {f : Nat × Nat}, w'.heap[k]? = some (.cells o t f) → (w'.setCell ⟨g, 2, none⟩ v).heap[k]? = w'.heap[k]? := fun ht _ _ _ hk => hso (by exact ne_of_types hk hb ht)
  have two : ∀ {t : Nat}, t ≠ ty → t ≠ 59 → ∀ {k : Nat} {o : Array Value} {f : Nat × Nat}, w.heap[k]? = some (.cells o t f) → (w'.setCell ⟨g, 2, none⟩ v).heap[k]? = w.heap[k]? := fun h1 h2 _ _ _ hk => by
    have e := st h2 hk
    exact (ne h1 (e.trans hk)).trans e
  refine ⟨(cr hb).trans (by simp), fzr hb, ⟨B.t1, B.t2, B.t3, B.bg, by rw [hss hb]; simp, B.mem.to fun k o f hk => two B.t1.symm (by decide) hk, B.bh, B.row.to fun k o f hk => two B.t3.symm (by decide) hk, owns_to ho fun k o f hk => ne B.t2.symm hk⟩, ?_⟩
  exact Fe.setCell (Fe.grown B.out q B.base_le) hb B.bg _ _
end Go.Proofs.YtdiofidmlgliiaaDoor.Mc
/-
  What steps have changed, as the cells of structs (api.Undo): in slices that are read ('Us'), and in rows of the program's own ('Ux').
-/
namespace Go.Proofs.YtdiofidmlgliiaaDoor.Ud
open Go.ChangeShapes Go.WideShapes Go.ChangeAt Go.RowKit Mm Hh Hc Mc
set_option linter.unusedVariables false
set_option linter.unusedSimpArgs false

variable {w w' : World} {u : Uv} {b l : Value} {ao : Option Addr} {n : Nat}
/-- The cells of an Undo: b its bytes, l the harts that lost, as slices. -/
def uL (u : Uv) (b l : Value) : List Value := .int .i64 u.k :: (hL u.was ++ [.int .u32 u.fr, b, l])
theorem uL_len (o : u.was.Ok) : (uL u b l).length = 41 := by simp [uL, hL_len o]
theorem uL_0 : (uL u b l)[0]? = some (.int .i64 u.k) := rfl
theorem uL_was (o : u.was.Ok) {j : Nat} (hj : j < 37) : (uL u b l)[1 + j]? = (hL u.was)[j]? := by
  have := hL_len o
  unfold uL
  rw [Nat.add_comm, List.getElem?_cons_succ, List.getElem?_append_left (by omega)]
theorem uL_fld (o : u.was.Ok) (j : Nat) : (uL u b l)[38 + j]? = [Value.int .u32 u.fr, b, l][j]? := by
  have h := hL_len o
  unfold uL
  rw [show 38 + j = 37 + j + 1 by omega, List.getElem?_cons_succ, List.getElem?_append_right (by omega), h, Nat.add_sub_cancel_left]
theorem hL_one (h : Hv) : ∀ v ∈ hL h, v.oneCell' = true := fun v hv => by
  simp only [hL, List.mem_append, List.mem_map, List.mem_cons, List.not_mem_nil, or_false] at hv
  rcases hv with ⟨n, _, rfl⟩ | rfl | rfl | rfl | rfl | rfl <;> rfl
theorem uL_one (h1 : b.oneCell' = true) (h2 : l.oneCell' = true) : ∀ v ∈ uL u b l, v.oneCell' = true := fun v hv => by
  simp only [uL, List.mem_cons, List.mem_append, List.not_mem_nil, or_false] at hv
  rcases hv with rfl | h | rfl | rfl | rfl
  · rfl
  · exact hL_one _ v h
  · rfl
  · exact h1
  · exact h2
theorem uA_one (h1 : b.oneCell' = true) (h2 : l.oneCell' = true) : (uL u b l).toArray.all (·.oneCell') = true := all_oneCell_toArray (uL_one h1 h2)
theorem iU : (Tryd.prog.info? 86).map (·.size) = some 41 := by kernel_rfl
def h00 : Uv := ⟨0, h0, 0, [], []⟩
theorem zU : (Tryd.prog.info? 86).bind (·.zero) = some (.agg (uL h00 nilS nilS).toArray) := by kernel_rfl
theorem infoU : (Tryd.prog.info? 86).map (fun i => (i.zero, i.size, i.bytes)) = some (some (.agg (uL h00 nilS nilS).toArray), 41, 224) := by kernel_rfl
theorem rangeAt_of {b o : Nat} {cs : List Value} (h : w.rangeAt b o cs) (hb : b < w.heap.size) (G : Gr w w') : w'.rangeAt b o cs := fun j v hv => (G.cell _ (by exact hb)).trans (h j v hv)
/-- Harts that lost, as cells. -/
def lsI (ls : List (Int × Int)) : List Value := ls.flatMap fun q => [.int .i64 q.1, .int .u32 q.2]
theorem lsI_lostI (ls : List (Nat × Int)) : lsI (lostI ls) = lsC ls := by
  induction ls with
  | nil => rfl
  | cons q r ih => simp only [lsI, lostI, lsC, List.map_cons, List.flatMap_cons] at ih ⊢; rw [ih]
theorem lsI_len (ls : List (Int × Int)) : (lsI ls).length = ls.length * 2 := by
  induction ls with
  | nil => rfl
  | cons p r ih => simp only [lsI, List.flatMap_cons, List.length_append, List.length_cons, List.length_nil] at ih ⊢; omega
theorem lsI_snoc (ls : List (Int × Int)) (q : Int × Int) : lsI (ls ++ [q]) = lsI ls ++ [.int .i64 q.1, .int .u32 q.2] := by simp [lsI]
theorem lsI_get : ∀ (ls : List (Int × Int)) (i : Nat) (q : Int × Int), ls[i]? = some q → (lsI ls)[i * 2]? = some (.int .i64 q.1) ∧ (lsI ls)[i * 2 + 1]? = some (.int .u32 q.2)
  | [], i, q, h => by simp at h
  | p :: r, 0, q, h => by simp at h; subst h; exact ⟨rfl, rfl⟩
  | p :: r, i + 1, q, h => by
    have ih := lsI_get r i q (by simpa using h)
    have e : lsI (p :: r) = [.int .i64 p.1, .int .u32 p.2] ++ lsI r := rfl
    rw [e, List.getElem?_append_right (by simp; omega), List.getElem?_append_right (by simp; omega)]
    simp only [List.length_cons, List.length_nil]
    rw [show (i + 1) * 2 - (0 + 1 + 1) = i * 2 by omega, show (i + 1) * 2 + 1 - (0 + 1 + 1) = i * 2 + 1 by omega]
    exact ih
/-- In world w, the slice at ao of n elements reads as harts that lost. -/
structure Ls (w : World) (ao : Option Addr) (n : Nat) (ls : List (Int × Int)) : Prop where
  len : ls.length = n
  spot : 0 < n → ∃ b o, ao = some ⟨b, o, none⟩ ∧ b < w.heap.size ∧ ∀ i p, ls[i]? = some p → w.cell? ⟨b, o + i * 2, none⟩ = some (.int .i64 p.1) ∧ w.cell? ⟨b, o + i * 2 + 1, none⟩ = some (.int .u32 p.2)
theorem Ls.of {ls : List (Int × Int)} (h : Ls w ao n ls) (g : Gr w w') : Ls w' ao n ls :=
  ⟨h.len, fun hn => by
    obtain ⟨b, o, e, hb, hc⟩ := h.spot hn
    exact ⟨b, o, e, Nat.lt_of_lt_of_le hb g.size, fun i q hq => ⟨(g.cell _ (by exact hb)).trans (hc i q hq).1, (g.cell _ (by exact hb)).trans (hc i q hq).2⟩⟩⟩
theorem Ls.below {n0 : Nat} {ls : List (Int × Int)} (h : Ls w ao n ls) (hb : ∀ ad, ao = some ad → 0 < n → ad.block < n0) (g : Below n0 w w') : Ls w' ao n ls :=
  ⟨h.len, fun hn => by
    obtain ⟨b, o, rfl, hl, hc⟩ := h.spot hn
    have hb2 := hb _ rfl hn
    exact ⟨b, o, rfl, Nat.lt_of_lt_of_le hl g.size, fun i q hq => ⟨(g.cell (by exact hb2)).trans (hc i q hq).1, (g.cell (by exact hb2)).trans (hc i q hq).2⟩⟩⟩
/-- An Undo as cells that are read. -/
def Uc (w : World) (u : Uv) (x : List Value) : Prop := ∃ ba bn bc la ln lc, x = uL u (.slice ba bn bc) (.slice la ln lc) ∧ u.Ok ∧ (-9223372036854775808 ≤ u.k ∧ u.k ≤ 9223372036854775807) ∧ (∀ q ∈ u.lost, -9223372036854775808 ≤ q.1 ∧ q.1 ≤ 9223372036854775807) ∧ Mem w ba bn u.bs ∧ Ls w la ln u.lost ∧ bn ≤ 140737488351232 ∧ ln ≤ 8796093022208
theorem Uc.of {x : List Value} (h : Uc w u x) (G : Gr w w') : Uc w' u x := by
  obtain ⟨ba, bn, bc, la, ln, lc, e, o, k1, k2, M, L, b1, b2⟩ := h
  exact ⟨ba, bn, bc, la, ln, lc, e, o, k1, k2, M.of G, L.of G, b1, b2⟩
theorem Uc.len {x : List Value} (h : Uc w u x) : x.length = 41 := by
  obtain ⟨ba, bn, bc, la, ln, lc, rfl, o, _⟩ := h
  exact uL_len o.was
theorem Uc.one {x : List Value} (h : Uc w u x) : x.toArray.all (·.oneCell') = true := by
  obtain ⟨ba, bn, bc, la, ln, lc, rfl, o, _⟩ := h
  exact uA_one rfl rfl
/-- In world w, the slice at ao of n elements reads as the Undos us. -/
structure Us (w : World) (ao : Option Addr) (n : Nat) (us : List Uv) : Prop where
  len : us.length = n
  spot : 0 < n → ∃ b o, ao = some ⟨b, o, none⟩ ∧ b < w.heap.size ∧ ∀ j u, us[j]? = some u → ∃ x, Uc w u x ∧ w.rangeAt b (o + j * 41) x
theorem Us.of {us : List Uv} (h : Us w ao n us) (G : Gr w w') : Us w' ao n us :=
  ⟨h.len, fun hn => by
    obtain ⟨b, o, e, hb, hc⟩ := h.spot hn
    refine ⟨b, o, e, Nat.lt_of_lt_of_le hb G.size, fun j u hj => ?_⟩
    obtain ⟨x, h1, h2⟩ := hc j u hj
    exact ⟨x, h1.of G, rangeAt_of h2 hb G⟩⟩
/-- An Undo as cells of the program's own: its bytes and those that lost lie in rows of its own. -/
def Uo (w : World) (u : Uv) (x : List Value) : Prop := ∃ M L, x = uL u M L ∧ Hc.Own w 0 M u.bs ∧ w.ownsRow 0 88 2 L u.lost.length (lsI u.lost)
/-- What keeps rows of bytes and of those that lost. -/
def Ky (w w' : World) : Prop := ∀ (k : Nat) (o : Array Value) (t : Nat) (f : Nat × Nat), (t = 5 ∨ t = 88) → w.heap[k]? = some (.cells o t f) → w'.heap[k]? = w.heap[k]?
theorem Ky.ofGr (G : Gr w w') : Ky w w' := fun k o t f _ h => G.block _ (gs h).1
theorem Uo.to {x : List Value} (h : Uo w u x) (q : Ky w w') : Uo w' u x := by
  obtain ⟨M, L, e, h1, h2⟩ := h
  exact ⟨M, L, e, h1.to fun k o f hk => q k o _ f (.inl rfl) hk, owns_to h2 fun k o f hk => q k o _ f (.inr rfl) hk⟩
theorem Uo.one {x : List Value} (h : Uo w u x) : ∀ v ∈ x, v.oneCell' = true := by
  obtain ⟨M, L, rfl, h1, h2⟩ := h
  obtain ⟨a, c, rfl, _⟩ := h1.mem
  exact uL_one rfl (owns_cells h2).2.1
structure Ux (w : World) (us : List Uv) (xs : List Value) : Prop where
  len : xs.length = us.length * 41
  at_ : ∀ (j : Nat) (u : Uv), us[j]? = some u → ∃ x, Uo w u x ∧ x.length = 41 ∧ ∀ i v, x[i]? = some v → xs[j * 41 + i]? = some v
theorem Ux.nil (w : World) : Ux w [] [] := ⟨rfl, fun j u h => by simp at h⟩
theorem Ux.to {us : List Uv} {xs : List Value} (h : Ux w us xs) (q : Ky w w') : Ux w' us xs :=
  ⟨h.len, fun j u hj => by
    obtain ⟨x, h1, h2⟩ := h.at_ j u hj
    exact ⟨x, h1.to q, h2⟩⟩
theorem Ux.snoc {us : List Uv} {xs x : List Value} (h : Ux w us xs) (k : Uo w u x) (hx : x.length = 41) : Ux w (us ++ [u]) (xs ++ x) := by
  have hl := h.len
  refine ⟨by rw [List.length_append, List.length_append, hl, hx]; simp; omega, fun j c hc => ?_⟩
  by_cases hj : j < us.length
  · rw [List.getElem?_append_left hj] at hc
    obtain ⟨y, h1, h2, h3⟩ := h.at_ j c hc
    refine ⟨y, h1, h2, fun i v hi => ?_⟩
    have : i < 41 := by have := (List.getElem?_eq_some_iff.1 hi).1; omega
    rw [List.getElem?_append_left (by omega)]
    exact h3 i v hi
  · rw [List.getElem?_append_right (by omega)] at hc
    have hj2 : j = us.length := by
      have := (List.getElem?_eq_some_iff.1 hc).1
      simp at this
      omega
    subst hj2
    simp at hc
    subst hc
    refine ⟨x, k, hx, fun i v hi => ?_⟩
    rw [List.getElem?_append_right (by omega), hl, Nat.add_sub_cancel_left]
    exact hi
theorem owns_read {base e sz c : Nat} {a : Option Addr} {xs : List Value} (h : w.ownsRow base e sz (.slice a n c) n xs) (hn : 0 < n) : ∃ g, a = some ⟨g, 0, none⟩ ∧ g < w.heap.size ∧ ∀ j v, xs[j]? = some v → w.cell? ⟨g, j, none⟩ = some v := by
  rcases h.2 with ⟨e0, hz⟩ | ⟨g, cap, cur, e1, _, hg, _, _, _, ht⟩
  · omega
  · injection e1 with e1 _ _
    refine ⟨g, e1, (gs hg).1, fun j v hj => ?_⟩
    rw [cr hg]
    rw [← ht, List.getElem?_take] at hj
    split at hj
    · simpa using hj
    · cases hj
theorem Uo.uc {x : List Value} (h : Uo w u x) (o : u.Ok) (k1 : -9223372036854775808 ≤ u.k ∧ u.k ≤ 9223372036854775807) (k2 : ∀ q ∈ u.lost, -9223372036854775808 ≤ q.1 ∧ q.1 ≤ 9223372036854775807) (b1 : u.bs.length ≤ 4096) (b2 : u.lost.length ≤ 4096) : Uc w u x := by
  obtain ⟨M, L, rfl, h1, h2⟩ := h
  obtain ⟨ba, bc, rfl, M1⟩ := h1.mem
  obtain ⟨_, _, la, lc, rfl⟩ := owns_cells h2
  refine ⟨ba, _, bc, la, _, lc, rfl, o, k1, k2, M1, ⟨rfl, fun hn => ?_⟩, by omega, by omega⟩
  obtain ⟨g, rfl, hg, hr⟩ := owns_read h2 hn
  refine ⟨g, 0, rfl, hg, fun i p hp => ?_⟩
  have := lsI_get _ _ _ hp
  rw [Nat.zero_add]
  exact ⟨hr _ _ this.1, hr _ _ this.2⟩
theorem Ux.us {us : List Uv} {xs : List Value} {base c : Nat} {a : Option Addr} (h : Ux w us xs) (r : w.ownsRow base 86 41 (.slice a n c) n xs) (hl : us.length = n) (ok : ∀ u ∈ us, u.Ok ∧ (-9223372036854775808 ≤ u.k ∧ u.k ≤ 9223372036854775807) ∧ (∀ q ∈ u.lost, -9223372036854775808 ≤ q.1 ∧ q.1 ≤ 9223372036854775807) ∧ u.bs.length ≤ 4096 ∧ u.lost.length ≤ 4096) : Us w a n us :=
  ⟨hl, fun hn => by
    obtain ⟨g, e, hg, hr⟩ := owns_read r hn
    refine ⟨g, 0, e, hg, fun j u hj => ?_⟩
    obtain ⟨x, h1, h2, h3⟩ := h.at_ j u hj
    obtain ⟨o, k1, k2, b1, b2⟩ := ok u (List.mem_of_getElem? hj)
    exact ⟨x, h1.uc o k1 k2 b1 b2, fun i v hi => by rw [Nat.zero_add]; exact hr _ _ (h3 i v hi)⟩⟩
end Go.Proofs.YtdiofidmlgliiaaDoor.Ud
/-
  What Board's Take does: what a hart did is made true ('tk').
-/
namespace Go.Proofs.YtdiofidmlgliiaaDoor.Mc
open Go.ChangeShapes Go.WideShapes Go.ChangeAt Go.RowKit Mm Hh Hc
set_option linter.unusedVariables false
set_option linter.unusedSimpArgs false

variable {ty : Nat} {rs : List Value}
theorem rgs_get : ∀ (ss : List (Int × Int)) (i : Nat) (p : Int × Int), ss[i]? = some p → (rgs ss)[i * 2]? = some (.int .u32 p.1) ∧ (rgs ss)[i * 2 + 1]? = some (.int .u32 (Wd.lo (p.1 + p.2)))
  | [], i, q, h => by simp at h
  | p :: r, 0, q, h => by simp at h; subst h; exact ⟨rfl, rfl⟩
  | p :: r, i + 1, q, h => by
    have ih := rgs_get r i q (by simpa using h)
    have e : rgs (p :: r) = [.int .u32 p.1, .int .u32 (Wd.lo (p.1 + p.2))] ++ rgs r := rfl
    rw [e, List.getElem?_append_right (by simp; omega), List.getElem?_append_right (by simp; omega)]
    simp only [List.length_cons, List.length_nil]
    rw [show (i + 1) * 2 - (0 + 1 + 1) = i * 2 by omega, show (i + 1) * 2 + 1 - (0 + 1 + 1) = i * 2 + 1 by omega]
    exact ih
theorem take_snoc {α : Type} {l : List α} {i : Nat} {x : α} (h : l[i]? = some x) : l.take (i + 1) = l.take i ++ [x] := by
  rw [List.take_add_one, h]
  rfl
theorem drops_snoc (hs : List Hv) {U : List (Nat × Int)} {m : Nat} {q : Nat × Int} (h : U[m]? = some q) : drops hs (U.take (m + 1)) = (drops hs (U.take m)).set q.1 (((drops hs (U.take m)).getD q.1 hN).hold false 0) := by
  rw [take_snoc h, drops_app]
  rfl
theorem lose_snoc (k : Nat) {ss : List (Int × Int)} {i : Nat} {p : Int × Int} (h : ss[i]? = some p) (hs : List Hv) : lose k (ss.take (i + 1)) hs = lose k [p] (lose k (ss.take i) hs) := by
  rw [take_snoc h, lose_app]
theorem cell_sa (w : World) (p : Addr) (v a b : Value) (t : Nat) : ((w.setCell p v).alloc (.cells #[a, b] t)).drew.cell? ⟨w.heap.size, 0, none⟩ = some a := by
  have := heap_alloc_new (w.setCell p v) (.cells #[a, b] t)
  have e : (w.setCell p v).heap.size = w.heap.size := by simp
  rw [e] at this
  exact cell_of_row _ _ _ _ _ (0, 0) this
theorem cell_saa (w : World) (p p' : Addr) (v v' a b : Value) (t : Nat) : (((w.setCell p v).setCell p' v').alloc (.cells #[a, b] t)).drew.drew.cell? ⟨w.heap.size, 0, none⟩ = some a := by
  have := heap_alloc_new ((w.setCell p v).setCell p' v') (.cells #[a, b] t)
  have e : ((w.setCell p v).setCell p' v').heap.size = w.heap.size := by simp
  rw [e] at this
  exact cell_of_row _ _ _ _ _ (0, 0) this
set_option maxHeartbeats 4000000 in
set_option maxRecDepth 100000 in
theorem Take_any {w : World} {base g gh hc : Nat} {M O : Value} {s : Sh} (B : Bw ty rs w base g M gh hc O s) {c : Nat} (hcl : s.hs.length = c) (hc4 : c ≤ 4) {d : Qv} {x : Wk} {b : Nat} (D : Dq w b d x) (ok : d.h.Ok) (bd : ∀ p ∈ x.sto, 0 ≤ p.1 ∧ 0 < p.2 ∧ p.1 + p.2 ≤ 4096)
    (hsl : x.sto.length ≤ 1000000) (hol : s.out.length + x.out.length ≤ 1000000) (hst : s.steps + x.n ≤ 1000000000) {k : Nat} (hk : k < c) :
    Calls Tryd.prog 40 #[.pointer (some ⟨g, 0, none⟩), .int .i64 k, .agg (qA d)] w fun e w' => e = .returned (.tuple #[]) ∧ Bd ty rs w' base g (tk s k x) ∧ Fe ty base w w' := by
  obtain ⟨sa, sc, hsto⟩ := (owns_cells D.sto).2.2
  obtain ⟨oa, oc, rfl⟩ := (owns_cells B.out).2.2
  obtain ⟨da, dc, hdo⟩ := (owns_cells D.out).2.2
  obtain ⟨da2, dc2, hdm, _⟩ := D.mem.mem
  have HDO : Hid (d.out = .slice da x.out.length dc) := hdo
  have HDM : Hid (d.m = .slice da2 x.m.length dc2) := hdm
  have hbw : base ≤ w.heap.size := B.base_le
  have g40 : (qA d)[40]? = some (.slice sa x.sto.length sc) := by rw [qA_fld ok 3]; simp [hsto]
  have g37 : (qA d)[37]? = some (.slice da2 x.m.length dc2) := by rw [qA_fld ok 0]; simp [hdm]
  have g38 : (qA d)[38]? = some (.slice da x.out.length dc) := by rw [qA_fld ok 1]; simp [hdo]
  have g39 : (qA d)[39]? = some (.int .i64 x.n) := by rw [qA_fld ok 2]; simp [D.n]
  have HLD : Hid ((hL d.h).length = 37) := hL_len ok
  have HGR : Hid (∀ j u, (hL d.h)[j]? = some u → (qA d)[j]? = some u) := fun j u hj => by
    have : j < 37 := by have := (List.getElem?_eq_some_iff.1 hj).1; rwa [HLD.out] at this
    rw [qA_get ok this]; exact hj
  have HOK : Hid d.h.Ok := ok
  have HD : Hid (Dq w b d x) := D
  have HB : Hid (Bw ty rs w base g M gh hc (.slice oa s.out.length oc) s) := B
  have hgl : g < w.heap.size := B.lt
  have hghl : gh < w.heap.size := by obtain ⟨_, e⟩ := B.row.row; exact (Array.getElem?_eq_some_iff.1 e).1
  have hggh : g ≠ gh := by obtain ⟨_, e⟩ := B.row.row; exact ne_of_types B.blk e B.t3
  have HCL : Hid (s.hs.length = c) := hcl
  have HBD : Hid (∀ p ∈ x.sto, 0 ≤ p.1 ∧ 0 < p.2 ∧ p.1 + p.2 ≤ 4096) := bd
  have HST : Hid (d.sto = .slice sa x.sto.length sc) := hsto
  clear D ok hsto B hcl bd hdo hdm
  generalize qA d = QA at *
  generalize hn : x.sto.length = n at *
  have HN : Hid (x.sto.length = n) := hn
  clear hn
  go_enter Tryd.func40, Tryd.ntmps40
  go_wp2_with fail
  go_loopw [13] (fun i wr => ∃ i' : Nat, i' ≤ n ∧ i = .int .i64 i' ∧ Bw ty rs wr base g M gh hc (.slice oa s.out.length oc) ⟨lose k (x.sto.take i') s.hs, s.m, s.out, s.steps⟩ ∧ Ch gh (w.alloc (.cells QA 101)) wr) (fun i _ => n - (intOf i).toNat)
  case atStart =>
    refine ⟨0, Nat.zero_le _, rfl, ?_, Ch.refl _ _⟩
    rw [List.take_zero, lose_nil]
    exact HB.out.of ((Gr.refl _).alloc _)
  case round =>
    obtain ⟨i, hi, rfl, B1, C1⟩ := hrel
    have HB1 : Hid (Bw ty rs wr base g M gh hc (.slice oa s.out.length oc) ⟨lose k (x.sto.take i) s.hs, s.m, s.out, s.steps⟩) := B1
    have HC1 : Hid (Ch gh (w.alloc (.cells QA 101)) wr) := C1
    have HD1 : Hid (Dq wr b d x) := (HD.out.gr ((Gr.refl _).alloc _)).ch (HB.out.row.of ((Gr.refl _).alloc _)) C1
    clear B1 C1
    by_cases hlt : i < n
    · obtain ⟨p, hp⟩ : ∃ p, x.sto[i]? = some p := ⟨_, List.getElem?_eq_getElem (by rw [HN.out]; exact hlt)⟩
      have HP : Hid (x.sto[i]? = some p) := hp
      obtain ⟨p0, p1, p2⟩ := HBD.out p (List.mem_of_getElem? hp)
      obtain ⟨sb, cp, hv, _⟩ := owns_at HD1.out.sto (by rw [HN.out]; omega)
      rw [HST.out, HN.out] at hv
      obtain rfl : sa = some ⟨sb, 0, none⟩ := by injection hv
      have OS : wr.ownsRow b 143 2 (.slice (some ⟨sb, 0, none⟩) n sc) n (rgs x.sto) := by have := HD1.out.sto; rw [HST.out, HN.out] at this; exact this
      have s0 : wr.cell? ⟨sb, i * 2, none⟩ = some (.int .u32 p.1) := (OS.cellAt _ (by omega)).trans (rgs_get _ _ _ hp).1
      have s1 : wr.cell? ⟨sb, i * 2 + 1, none⟩ = some (.int .u32 (Wd.lo (p.1 + p.2))) := (OS.cellAt _ (by omega)).trans (rgs_get _ _ _ hp).2
      have HL1 : Hid ((lose k (x.sto.take i) s.hs).length = c) := by unfold Hid; rw [lose_len]; exact HCL.out
      have HLo : Hid (∀ W : World, Gr wr W → Calls Tryd.prog 73 #[.pointer (some ⟨g, 0, none⟩), .int .i64 k, .agg #[.int .u32 p.1, .int .u32 (Wd.lo (p.1 + p.2))]] W fun e w' => ∃ v, e = .returned v ∧ w'.ownsRow W.heap.size 88 2 v (lostU k p (lose k (x.sto.take i) s.hs) c).length (lsC (lostU k p (lose k (x.sto.take i) s.hs) c)) ∧ Gr W w') := fun W G => by
        have := Lost_any (HB1.out.of G) (by show (lose _ _ _).length ≤ 4; rw [HL1.out]; exact hc4) k p p0 p1 p2
        simp only [HL1.out] at this
        exact this
      have HNX : Hid (lose k (x.sto.take (i + 1)) s.hs = drops (lose k (x.sto.take i) s.hs) (lostU k p (lose k (x.sto.take i) s.hs) c)) := by
        unfold Hid
        rw [lose_snoc k hp, ← drops_all, HL1.out]
      have hUl := lostU_len k p (lose k (x.sto.take i) s.hs) c
      have HUlt : Hid (∀ q ∈ lostU k p (lose k (x.sto.take i) s.hs) c, q.1 < c) := lostU_lt k p _ c
      clear hv OS hp
      generalize lose k (x.sto.take i) s.hs = hs at *
      generalize lostU k p hs c = U at *
      generalize Wd.lo (p.1 + p.2) = pt at *
      generalize p.1 = pf at *
      go_wp2_with fail
      refine (HLo.out _ ((Gr.refl _).alloc _)).mono ?_
      rintro e w2 ⟨v, rfl, OL, G2⟩
      obtain ⟨la, lc, rfl⟩ := (owns_cells OL).2.2
      have HG2 : Hid (Gr wr w2) := ((Gr.refl _).alloc _).trans G2
      have HOL : Hid (w2.ownsRow 0 88 2 (.slice la U.length lc) U.length (lsC U)) := ⟨OL.1, OL.2.imp (fun h => h) (fun ⟨a, b, c, h1, h2, h3⟩ => ⟨a, b, c, h1, Nat.zero_le _, h3⟩)⟩
      have HB2 : Hid (Bw ty rs w2 base g M gh hc (.slice oa s.out.length oc) ⟨hs, s.m, s.out, s.steps⟩) := HB1.out.of HG2.out
      have HC2 : Hid (Ch gh (w.alloc (.cells QA 101)) w2) := HC1.out.gr HG2.out
      clear OL G2 HLo s0 s1 HB1 HC1 HD1
      go_wp2_with fail
      go_loopw [22] (fun i wq => ∃ m : Nat, m ≤ U.length ∧ i = .int .i64 m ∧ Bw ty rs wq base g M gh hc (.slice oa s.out.length oc) ⟨drops hs (U.take m), s.m, s.out, s.steps⟩ ∧ Ch gh w2 wq) (fun i _ => U.length - (intOf i).toNat)
      case atStart =>
        refine ⟨0, Nat.zero_le _, rfl, ?_, Ch.refl _ _⟩
        rw [List.take_zero]
        exact HB2.out
      case round =>
        obtain ⟨m, hm, rfl, B3, C3⟩ := hrel
        have HB3 : Hid (Bw ty rs wr base g M gh hc (.slice oa s.out.length oc) ⟨drops hs (U.take m), s.m, s.out, s.steps⟩) := B3
        have HC3 : Hid (Ch gh w2 wr) := C3
        clear B3 C3
        by_cases hlt2 : m < U.length
        · obtain ⟨q, hq⟩ : ∃ q, U[m]? = some q := ⟨_, List.getElem?_eq_getElem hlt2⟩
          obtain ⟨lb, cp2, hv, _⟩ := owns_at HOL.out (by omega)
          obtain rfl : la = some ⟨lb, 0, none⟩ := by injection hv
          have OL3 : wr.ownsRow 0 88 2 (.slice (some ⟨lb, 0, none⟩) U.length lc) U.length (lsC U) := owns_to HOL.out fun k o f hk => ch_keep HB2.out.row HC3.out (by decide) hk
          have l0 : wr.cell? ⟨lb, m * 2, none⟩ = some (.int .i64 q.1) := (OL3.cellAt _ (by omega)).trans (lsC_get _ _ _ hq).1
          have l1 : wr.cell? ⟨lb, m * 2 + 1, none⟩ = some (.int .u32 q.2) := (OL3.cellAt _ (by omega)).trans (lsC_get _ _ _ hq).2
          have HDS : Hid (drops hs (U.take (m + 1)) = (drops hs (U.take m)).set q.1 (((drops hs (U.take m)).getD q.1 hN).hold false 0)) := drops_snoc hs hq
          have hq1 : q.1 < c := HUlt.out q (List.mem_of_getElem? hq)
          have hdl : (drops hs (U.take m)).length = c := by rw [drops_len]; exact HL1.out
          have HDL : Hid ((drops hs (U.take m)).length = c) := hdl
          have hgq : (drops hs (U.take m))[q.1]? = some ((drops hs (U.take m)).getD q.1 hN) := by rw [List.getElem?_eq_getElem (by omega)]; simp [List.getD, show q.1 < (drops hs (U.take m)).length by omega]
          have okq : ((drops hs (U.take m)).getD q.1 hN).Ok := HB3.out.row.ok _ (List.mem_of_getElem? hgq)
          have c33 : wr.cell? ⟨gh, q.1 * 37 + 33, none⟩ = some (.bool ((drops hs (U.take m)).getD q.1 hN).held) := (HB3.out.row.cell hgq (by omega)).trans (hL_fld okq 1)
          have c34 : wr.cell? ⟨gh, q.1 * 37 + 34, none⟩ = some (.int .u32 ((drops hs (U.take m)).getD q.1 hN).heldAt) := (HB3.out.row.cell hgq (by omega)).trans (hL_fld okq 2)
          have f33 : wr.frozen? ⟨gh, q.1 * 37 + 33, none⟩ = false := HB3.out.row.fz _
          have f34 : wr.frozen? ⟨gh, q.1 * 37 + 34, none⟩ = false := HB3.out.row.fz _
          have kg1 : wr.cell? ⟨g, 1, none⟩ = some (.slice (some ⟨gh, 0, none⟩) c hc) := by have := HB3.out.c1; simp only [HDL.out] at this; exact this
          have hgw : g < wr.heap.size := (Array.getElem?_eq_some_iff.1 HB3.out.blk).1
          have hghw : gh < wr.heap.size := by obtain ⟨_, e⟩ := HB3.out.row.row; exact (Array.getElem?_eq_some_iff.1 e).1
          have n1 : gh ≠ g := fun e => hggh e.symm
          have n2 : gh ≠ wr.heap.size := by omega
          have HGQ : Hid ((drops hs (U.take m))[q.1]? = some ((drops hs (U.take m)).getD q.1 hN)) := hgq
          have HOQ : Hid ((drops hs (U.take m)).getD q.1 hN).Ok := okq
          clear hq hv OL3 hdl hgq okq
          obtain ⟨q1, q2⟩ := q
          simp only at *
          generalize (drops hs (U.take m)).getD q1 hN = hq at *
          generalize drops hs (U.take m) = hsm at *
          go_wp2_with fail
          go_region_held3 (fun W => W.cell? ⟨g, 1, none⟩ = some (.slice (some ⟨gh, 0, none⟩) c hc) ∧ W.cell? ⟨wr.heap.size, 0, none⟩ = some (.int .i64 q1)) (refine ⟨?_, ?_⟩ <;> first | (go_keep; done) | exact cell_sa _ _ _ _ _ _ | exact cell_saa _ _ _ _ _ _ _ _) (fail)
          go_wp2_with fail
          go_region_held3 (fun W => W.cell? ⟨g, 1, none⟩ = some (.slice (some ⟨gh, 0, none⟩) c hc) ∧ W.cell? ⟨wr.heap.size, 0, none⟩ = some (.int .i64 q1)) (refine ⟨?_, ?_⟩ <;> first | (go_keep; done) | exact cell_saa _ _ _ _ _ _ _ _) (fail)
          go_wp2_with fail
          go_roundw
          case rel =>
            have ok1 : Hv.Ok { hq with held := false } := ⟨HOQ.out.len, HOQ.out.reg, HOQ.out.pc0, HOQ.out.pc1, HOQ.out.at0, HOQ.out.at1⟩
            have R1 := HB3.out.row.set HGQ.out (by omega) (set_held HOQ.out false) ok1
            have hg1 : (hsm.set q1 { hq with held := false })[q1]? = some { hq with held := false } := by rw [List.getElem?_set_self (by rw [HDL.out]; exact hq1)]
            have R2 := R1.set hg1 (by omega) (set_heldAt ok1 0) (h' := hq.hold false 0) (HOQ.out.hold false (x := 0) (by omega) (by omega))
            rw [List.set_set] at R2
            have CH : ∀ o : Obj, Ch gh wr (((wr.setCell ⟨gh, q1 * 37 + 33, none⟩ (.bool false)).setCell ⟨gh, q1 * 37 + 34, none⟩ (.int .u32 0)).alloc o).drew.drew := fun o => Ch.gr (((Ch.refl gh wr).setCell _ _).setCell _ _) (Gr.drew (Gr.drew (Gr.alloc (Gr.refl _) _)))
            refine ⟨m + 1, by omega, by go_num, ?_, HC3.out.trans (CH _)⟩
            rw [HDS.out]
            exact HB3.out.ch (CH _) (R2.of (Gr.drew (Gr.drew (Gr.alloc (Gr.refl _) _)))) (by show (hsm.set q1 _).length = hsm.length; rw [List.length_set])
          case measure => simp [intOf]; omega
        · have HBN : Hid (Bw ty rs wr base g M gh hc (.slice oa s.out.length oc) ⟨lose k (x.sto.take (i + 1)) s.hs, s.m, s.out, s.steps⟩) := by
            have := HB3.out
            rw [show m = U.length by omega, List.take_length] at this
            unfold Hid; rw [HNX.out]; exact this
          have HCN : Hid (Ch gh (w.alloc (.cells QA 101)) wr) := HC2.out.trans HC3.out
          clear HB3 HC3 HNX HOL HB2 HC2
          go_wp2_with fail
          go_roundw
          case rel => exact ⟨i + 1, by omega, by go_num, HBN.out, HCN.out⟩
          case measure => simp [intOf]; omega
-- TAIL
    · have HB4 : Hid (Bw ty rs wr base g M gh hc (.slice oa s.out.length oc) ⟨lose k x.sto s.hs, s.m, s.out, s.steps⟩) := by
        have := HB1.out
        rw [show i = x.sto.length by rw [HN.out]; omega, List.take_length] at this
        exact this
      have HBX : Hid (wr.heap[w.heap.size]? = some (.cells QA 101 (0, 0))) := (ch_keep (HB.out.row.of ((Gr.refl _).alloc _)) HC1.out (by decide) (heap_alloc_new w _)).trans (heap_alloc_new w _)
      have HL4 : Hid ((lose k x.sto s.hs).length = c) := by unfold Hid; rw [lose_len]; exact HCL.out
      have kg1 : wr.cell? ⟨g, 1, none⟩ = some (.slice (some ⟨gh, 0, none⟩) c hc) := by have := HB4.out.c1; simp only [HL4.out] at this; exact this
      have HRG : Hid (wr.rangeAt w.heap.size 0 (hL d.h)) := fun j u hj => by rw [Nat.zero_add, cell_of_row _ _ _ _ _ _ HBX.out]; exact HGR.out j u hj
      have HTH : Hid (wr.there gh (k * 37) 37) := HB4.out.row.there (i := k) (List.getElem?_eq_getElem (by rw [HL4.out]; exact hk))
      have HCA : Hid (Fe ty base w wr) := Fe.trans (Fe.ofGr ((Gr.refl w).alloc _) hbw) (Fe.ch (HB.out.row.of ((Gr.refl _).alloc _)) HC1.out HB.out.bh (by simp; omega))
      clear HB1 HC1 HBD
      generalize hh4 : lose k x.sto s.hs = hs4 at *
      have HH4 : Hid (lose k x.sto s.hs = hs4) := hh4
      clear hh4
      go_wp2_with fail
      refine wp_region_held_drew (S := fun W => W.cell? ⟨g, 1, none⟩ = some (.slice (some ⟨gh, 0, none⟩) c hc) ∧ W.rangeAt w.heap.size 0 (hL d.h)) (by kernel_rfl) ?_ (fun hHeld => ?_)
      · exact ⟨kg1, HRG.out⟩
      have HS0 : Hid _ := hHeld
      clear hHeld
      refine wpAnyH_take (i := 0) (v := .pointer (some ⟨g, 0, none⟩)) rfl (by kernel_rfl) (by kernel_rfl) (by kernel_rfl) (fun _ _ _ h => h) (Or.inl ⟨by rfl, fun W hW => by obtain ⟨q0, q1⟩ := hW; go_simp⟩) HS0.out ?_
      simp only [Act.put, List.setIfInBounds_toArray, List.set_cons_zero, List.set_cons_succ]
      refine wpAnyH_take (i := 1) (v := .pointer (some ⟨g, 0, none⟩)) rfl (by kernel_rfl) (by kernel_rfl) (by kernel_rfl) (fun _ _ _ h => h) (Or.inl ⟨by rfl, fun W hW => by obtain ⟨q0, q1⟩ := hW; go_simp⟩) HS0.out ?_
      simp only [Act.put, List.setIfInBounds_toArray, List.set_cons_zero, List.set_cons_succ]
      refine wpAnyH_take (i := 2) (v := .pointer (some ⟨g, 0, none⟩)) rfl (by kernel_rfl) (by kernel_rfl) (by kernel_rfl) (fun _ _ _ h => h) (Or.inl ⟨by rfl, fun W hW => by obtain ⟨q0, q1⟩ := hW; go_simp⟩) HS0.out ?_
      simp only [Act.put, List.setIfInBounds_toArray, List.set_cons_zero, List.set_cons_succ]
      refine wpAnyH_take (i := 3) (v := .pointer (some ⟨g, 0, none⟩)) rfl (by kernel_rfl) (by kernel_rfl) (by kernel_rfl) (fun _ _ _ h => h) (Or.inl ⟨by rfl, fun W hW => by obtain ⟨q0, q1⟩ := hW; go_simp⟩) HS0.out ?_
      simp only [Act.put, List.setIfInBounds_toArray, List.set_cons_zero, List.set_cons_succ]
      refine wpAnyH_take (i := 4) (v := .pointer (some ⟨g, 1, none⟩)) rfl (by kernel_rfl) (by kernel_rfl) (by kernel_rfl) (fun _ _ _ h => h) (Or.inl ⟨by rfl, fun W hW => by obtain ⟨q0, q1⟩ := hW; go_simp⟩) HS0.out ?_
      simp only [Act.put, List.setIfInBounds_toArray, List.set_cons_zero, List.set_cons_succ]
      refine wpAnyH_take (i := 5) (v := .slice (some ⟨gh, 0, none⟩) c hc) rfl (by kernel_rfl) (by kernel_rfl) (by kernel_rfl) (fun _ _ _ h => h) (Or.inl ⟨by rfl, fun W hW => by obtain ⟨q0, q1⟩ := hW; go_simp⟩) HS0.out ?_
      simp only [Act.put, List.setIfInBounds_toArray, List.set_cons_zero, List.set_cons_succ]
      refine wpAnyH_take (i := 6) (v := .int .i64 k) rfl (by kernel_rfl) (by kernel_rfl) (by kernel_rfl) (fun _ _ _ h => h) (Or.inl ⟨by rfl, fun W hW => by obtain ⟨q0, q1⟩ := hW; go_simp⟩) HS0.out ?_
      simp only [Act.put, List.setIfInBounds_toArray, List.set_cons_zero, List.set_cons_succ]
      refine wpAnyH_take (i := 7) (v := .pointer (some ⟨w.heap.size, 0, none⟩)) rfl (by kernel_rfl) (by kernel_rfl) (by kernel_rfl) (fun _ _ _ h => h) (Or.inl ⟨by rfl, fun W hW => by obtain ⟨q0, q1⟩ := hW; go_simp⟩) HS0.out ?_
      simp only [Act.put, List.setIfInBounds_toArray, List.set_cons_zero, List.set_cons_succ]
      refine wpAnyH_take (i := 8) (v := .agg (hL d.h).toArray) rfl (by kernel_rfl) (by kernel_rfl) (by kernel_rfl) (fun _ _ _ h => h) ?hy HS0.out ?_
      case hy => exact yieldsIf_load_mid (by rfl) 70 (.tmp 55) rfl w.heap.size 0 (by simp [Act.eval]) (hL d.h) _ (fun W hW => hW.2) Tryd.underlying70 rfl (by rw [HLD.out]; exact iH)
      simp only [Act.put, List.setIfInBounds_toArray, List.set_cons_zero, List.set_cons_succ]
      refine wpAnyH_take (i := 9) (v := .pointer (some ⟨gh, k * 37, none⟩)) rfl (by kernel_rfl) (by kernel_rfl) (by kernel_rfl) (fun _ _ _ h => h) (Or.inl ⟨by rfl, fun W hW => by obtain ⟨q0, q1⟩ := hW; go_simp⟩) HS0.out ?_
      simp only [Act.put, List.setIfInBounds_toArray, List.set_cons_zero, List.set_cons_succ]
      have C5 : Ch gh wr (wr.drew.setCells gh (k * 37) (hL d.h)) := Ch.setCells (Ch.ofGr (Gr.drew (Gr.refl _))) _ _
      have B5 : Bw ty rs (wr.drew.setCells gh (k * 37) (hL d.h)) base g M gh hc (.slice oa s.out.length oc) ⟨hs4.set k d.h, s.m, s.out, s.steps⟩ := HB4.out.ch C5 ((HB4.out.row.of (Gr.drew (Gr.refl _))).put (by rw [HL4.out]; exact hk) HOK.out) (by show (hs4.set k _).length = hs4.length; rw [List.length_set])
      have X5 : (wr.drew.setCells gh (k * 37) (hL d.h)).heap[w.heap.size]? = some (.cells QA 101 (0, 0)) := (ch_keep HB4.out.row C5 (by decide) HBX.out).trans HBX.out
      have D5 : Dq (wr.drew.setCells gh (k * 37) (hL d.h)) b d x := HD1.out.ch HB4.out.row C5
      have L5 : Fe ty base w (wr.drew.setCells gh (k * 37) (hL d.h)) := Fe.trans HCA.out (Fe.ch HB4.out.row C5 HB.out.bh HB4.out.base_le)
      refine held_store_mid (i := 10) (by kernel_rfl) rfl rfl 70 (.tmp 57) (.tmp 56) rfl gh (k * 37) (hL d.h).toArray (by simp [Act.eval]) (by simp [Act.eval]) (by rw [List.size_toArray, HLD.out]; exact HTH.out) (by rw [List.size_toArray, HLD.out]; exact iH) (one_hA d.h) ?_ ?_
      · exact ⟨by have := B5.c1; simp only [List.length_set, HL4.out] at this; exact this, fun j u hj => by rw [Nat.zero_add, cell_of_row _ _ _ _ _ _ X5]; exact HGR.out j u hj⟩
      clear HS0
      refine wpAnyH_done (by kernel_rfl) ?_ _
      have e0 : (hL d.h).toArray.toList = hL d.h := rfl
      rw [e0]
      clear HTH HRG kg1 C5 HB4 HBX HD1 HCA
      generalize wr.drew.setCells gh (k * 37) (hL d.h) = w5 at *
      have HB5 : Hid (Bw ty rs w5 base g M gh hc (.slice oa s.out.length oc) ⟨hs4.set k d.h, s.m, s.out, s.steps⟩) := B5
      have HX5 : Hid (w5.heap[w.heap.size]? = some (.cells QA 101 (0, 0))) := X5
      have HD5 : Hid (Dq w5 b d x) := D5
      have HL5 : Hid (Fe ty base w w5) := L5
      have k0 : w5.cell? ⟨g, 0, none⟩ = some M := B5.c0
      have f0 : w5.frozen? ⟨g, 0, none⟩ = false := B5.fz 0
      have m37 : w5.cell? ⟨w.heap.size, 37, none⟩ = some (.slice da2 x.m.length dc2) := (cell_of_row _ _ _ _ _ _ X5).trans g37
      clear B5 X5 D5 L5
      go_wp2_with fail
      have B6 := HB5.out.setM (by have := HD5.out.mem; rw [HDM.out] at this; exact this)
      have X6 : (w5.setCell ⟨g, 0, none⟩ (.slice da2 x.m.length dc2)).heap[w.heap.size]? = some (.cells QA 101 (0, 0)) := (heap_setCell_other _ _ _ _ (by show w.heap.size ≠ g; omega)).trans HX5.out
      have D6 : (w5.setCell ⟨g, 0, none⟩ (.slice da2 x.m.length dc2)).ownsRow b 59 1 d.out x.out.length (x.out.map (Value.int .u32)) := owns_to HD5.out.out fun _ _ _ hk => bw_other HB5.out _ _ HB.out.t2.symm hk
      have L6 : Fe ty base w (w5.setCell ⟨g, 0, none⟩ (.slice da2 x.m.length dc2)) := Fe.setCell HL5.out HB5.out.blk HB.out.bg _ _
      clear HB5 HX5 HD5 HL5 k0 f0 m37
      generalize w5.setCell ⟨g, 0, none⟩ (.slice da2 x.m.length dc2) = w6 at *
      have HB6 : Hid (Bw ty rs w6 base g (.slice da2 x.m.length dc2) gh hc (.slice oa s.out.length oc) ⟨hs4.set k d.h, x.m, s.out, s.steps⟩) := B6
      have HX6 : Hid (w6.heap[w.heap.size]? = some (.cells QA 101 (0, 0))) := X6
      have HD6 : Hid (w6.ownsRow b 59 1 (.slice da x.out.length dc) x.out.length (x.out.map (Value.int .u32))) := by rw [HDO.out] at D6; exact D6
      have HL6 : Hid (Fe ty base w w6) := L6
      have k2 : w6.cell? ⟨g, 2, none⟩ = some (.slice oa s.out.length oc) := B6.c2
      have m38 : w6.cell? ⟨w.heap.size, 38, none⟩ = some (.slice da x.out.length dc) := (cell_of_row _ _ _ _ _ _ X6).trans g38
      have hb6 : base ≤ w6.heap.size := B6.base_le
      have HO6 : Hid (w6.ownsRow base 59 1 (.slice oa s.out.length oc) s.out.length (s.out.map (Value.int .u32))) := B6.out
      clear B6 X6 D6 L6
      obtain ⟨i0, hi0, hz0, hz1, hz2⟩ := info_parts infoW
      go_region_law (refine step_append_src rfl (.tmp 70) (.tmp 72) rfl Tryd.underlying38 hi0 hz0 hz1 hz2 rfl (by decide) (by simp [Act.eval, Act.put]) (by simp [Act.eval, Act.put]) (owns_gr HO6.out (by repeat (first | exact Gr.refl _ | refine Gr.drew ?_))) (Src.own (owns_gr HD6.out (by repeat (first | exact Gr.refl _ | refine Gr.drew ?_)))) (words_one _) (by unfold maxLen; omega) (by omega) (by exact hb6) ?_; intro v' w7 hown hgrow; obtain ⟨va, vc, rfl⟩ := (owns_cells hown).2.2; have X7 := (grown_keep (owns_gr HO6.out (Gr.drew (Gr.refl _))) hgrow (by decide) (Hr.heap_of_gr (Gr.drew (Gr.refl _)) HX6.out)); rw [Hr.heap_of_gr (Gr.drew (Gr.refl _)) HX6.out] at X7; have HX7 : Hid (w7.heap[w.heap.size]? = some (.cells QA 101 (0, 0))) := X7; rw [← List.map_append, ← List.length_append] at hown; obtain ⟨c2, z2, B7, L7⟩ := (HB6.out.of (Gr.drew (Gr.refl _))).grown hgrow hown; have HB7 : Hid _ := B7; have HL7 : Hid (Fe ty base w _) := Fe.trans HL6.out (Fe.trans (Fe.drew (Fe.refl base w6)) L7); clear X7 B7 L7 hown hgrow)
      all_goals
        have B8 := HB7.out
        have L8 := HL7.out
        have X8 : (w7.setCell ⟨g, 2, none⟩ (.slice va (s.out.length + x.out.length) vc)).heap[w.heap.size]? = some (.cells QA 101 (0, 0)) := (heap_setCell_other _ _ _ _ (by show w.heap.size ≠ g; omega)).trans HX7.out
        clear HB7 HL7 HX7 HB6 HX6 HD6 HL6 HO6 k2 m38 c2 z2
        rw [List.length_append] at B8 L8
        generalize w7.setCell ⟨g, 2, none⟩ (.slice va (s.out.length + x.out.length) vc) = w8 at *
        have HB8 : Hid (Bw ty rs w8 base g (.slice da2 x.m.length dc2) gh hc (.slice va (s.out.length + x.out.length) vc) ⟨hs4.set k d.h, x.m, s.out ++ x.out, s.steps⟩) := B8
        have HL8 : Hid (Fe ty base w w8) := L8
        have k3 : w8.cell? ⟨g, 3, none⟩ = some (.int .i64 s.steps) := B8.c3
        have f3 : w8.frozen? ⟨g, 3, none⟩ = false := B8.fz 3
        have m39 : w8.cell? ⟨w.heap.size, 39, none⟩ = some (.int .i64 x.n) := (cell_of_row _ _ _ _ _ _ X8).trans g39
        clear B8 L8 X8
        go_wp2_with fail
        go_region
      all_goals
        go_end0
        refine ⟨rfl, ?_, ?_⟩
        · have B9 := HB8.out.setN (s.steps + x.n)
          have e9 : tk s k x = ⟨hs4.set k d.h, x.m, s.out ++ x.out, s.steps + x.n⟩ := by unfold tk; rw [HH4.out, HD.out.hh]
          rw [e9]
          rw [Int.natCast_add] at B9
          exact ⟨_, _, _, _, B9.of (Gr.drew (Gr.refl _))⟩
        · exact Fe.drew (Fe.setCell HL8.out HB8.out.blk HB.out.bg _ _)
end Go.Proofs.YtdiofidmlgliiaaDoor.Mc
/-
  What package machine's Run answers: how a machine runs ('play'), or what is wrong.
-/
namespace Go.Proofs.YtdiofidmlgliiaaDoor.Mc
open Go.ChangeShapes Go.WideShapes Go.ChangeAt Go.RowKit Mm Hh Hc
set_option linter.unusedVariables false
set_option linter.unusedSimpArgs false

theorem wk_ok {m : Nat} : ∀ (n : Nat) {x : Wk}, WOk x m → WOk (wk x n) m ∧ (wk x n).n ≤ x.n + n
  | 0, x, o => ⟨o, Nat.le_refl _⟩
  | n + 1, x, o => by
    unfold wk
    split
    · rename_i h
      have := wk_ok n (wk1_ok o h)
      refine ⟨this.1, ?_⟩
      have h2 := this.2
      have : (wk1 x).n = x.n + 1 := rfl
      omega
    · exact ⟨o, by omega⟩
/-- What came out is no more than the steps; these are at most t. -/
def Few (s : Sh) (t : Nat) : Prop := s.out.length ≤ s.steps ∧ s.steps ≤ t
theorem tk_few {s : Sh} {t m n k : Nat} {x : Wk} (f : Few s t) (o : WOk x m) (h : x.n ≤ n) : Few (tk s k x) (t + n) := by
  unfold Few tk at *
  have := o.out
  simp only [List.length_append]
  omega
/-- A script of picks that may be, as numbers. -/
def nums (ps : List (Int × Int)) : List (Nat × Nat) := ps.map fun p => (p.1.toNat, p.2.toNat)
theorem nums_get {ps : List (Int × Int)} {j : Nat} {p : Int × Int} (h : ps[j]? = some p) : (nums ps).take (j + 1) = (nums ps).take j ++ [(p.1.toNat, p.2.toNat)] := by
  refine take_snoc ?_
  unfold nums
  rw [List.getElem?_map, h]
  rfl
theorem wrong_ok {m : List UInt8} {hs : List Hv} {ps : List (Int × Int)} (h : wrong m hs ps = 0) : m.length ≤ 4096 ∧ 1 ≤ hs.length ∧ hs.length ≤ 4 ∧ (∀ h ∈ hs, may h = true) ∧ ps.length ≤ 300 ∧ ∀ p ∈ ps, 0 ≤ p.1 ∧ p.1 < hs.length ∧ 0 ≤ p.2 ∧ p.2 ≤ 400 := by
  unfold wrong at h
  split at h
  · omega
  split at h
  · omega
  split at h
  · omega
  split at h
  · omega
  rename_i h1 h2 h3 h4
  refine ⟨by omega, by omega, by omega, ?_, by omega, fun p hp => ?_⟩
  · simpa using h2
  · have := (List.all_eq_true.1 (by simpa using h4)) p hp
    simpa [pickOk] using this
theorem HRow.lt {w : World} {g : Nat} {hs : List Hv} (r : HRow w g hs) : g < w.heap.size := by
  obtain ⟨_, e⟩ := r.row; exact (Array.getElem?_eq_some_iff.1 e).1
theorem HRow.hs {w : World} {g c : Nat} {hs : List Hv} (r : HRow w g hs) (h : hs.length = c) : Hs w (some ⟨g, 0, none⟩) c hs :=
  ⟨h, r.ok, fun _ => ⟨g, 0, rfl, r.lt, fun i q hq => by rw [Nat.zero_add]; exact r.range hq⟩⟩
/-- In world w, the struct v (api.Shown) reads as S: a machine of c harts and mn bytes, what came out, steps. -/
def Shn (w : World) (v : Value) (c mn : Nat) (S : Sh) : Prop := ∃ ma mc ha hc oa oc, v = .agg #[.slice ma mn mc, .slice ha c hc, .slice oa S.out.length oc, .int .i64 S.steps] ∧ Mem w ma mn S.m ∧ (ma = none → mc = 0) ∧ Hs w ha c S.hs ∧ Wm w oa S.out.length S.out ∧ (oa = none → oc = 0)
theorem Shn.of {w w' : World} {v : Value} {c mn : Nat} {S : Sh} (h : Shn w v c mn S) (G : Gr w w') : Shn w' v c mn S := by
  obtain ⟨ma, mc, ha, hc, oa, oc, e, h1, h2, h3, h4, h5⟩ := h
  exact ⟨ma, mc, ha, hc, oa, oc, e, h1.of G, h2, h3.of G, h4.of G, h5⟩
theorem own_cap {w : World} {a : Option Addr} {n c : Nat} {l : List UInt8} (h : Own w 0 (.slice a n c) l) : a = none → c = 0 := by
  rintro rfl
  rcases h with ⟨h, _⟩ | ⟨k, cap, h, _⟩
  · injection h
  · cases h
theorem owns_cap {w : World} {base e sz n c : Nat} {a : Option Addr} {xs : List Value} (h : w.ownsRow base e sz (.slice a n c) n xs) : a = none → c = 0 := by
  rintro rfl
  rcases h.2 with ⟨h, _⟩ | ⟨g, cap, cur, h, _⟩
  · injection h
  · cases h
theorem gr_trans2 {a b c : World} {n : Nat} (h : Gr a b) (k : Below n b c) (hn : a.heap.size ≤ n) : Gr a c := Below.trans h (Below.mono k hn)
theorem shn_own {w : World} {va oa : Option Addr} {vc gh hc oc c mn base : Nat} {S : Sh} (h1 : Own w 0 (.slice va mn vc) S.m) (hm : S.m.length = mn) (h2 : HRow w gh S.hs) (hl : S.hs.length = c) (h3 : w.ownsRow base 59 1 (.slice oa S.out.length oc) S.out.length (S.out.map (Value.int .u32))) :
    Shn w (.agg #[.slice va mn vc, .slice (some ⟨gh, 0, none⟩) c hc, .slice oa S.out.length oc, .int .i64 S.steps]) c mn S := by
  obtain ⟨a, b, e, M⟩ := h1.mem
  obtain ⟨a2, b2, e2, W⟩ := wm_own rfl h3
  injection e with e3 e4 e5
  injection e2 with e6 e7 e8
  subst e3 e6
  rw [hm] at M
  exact ⟨_, _, _, _, _, _, rfl, M, own_cap h1, h2.hs hl, W, owns_cap h3⟩
theorem iS : (Tryd.prog.info? 40).map (·.size) = some 4 := by kernel_rfl

set_option maxHeartbeats 1000000 in
set_option maxRecDepth 100000 in
theorem Run_no {ma ha pa : Option Addr} {hn pn : Nat} (mc hc pc : Nat) {m : List UInt8} {hs : List Hv} {ps : List (Int × Int)} {w : World} (mn : Nat) (hmn : m.length = mn) (H : Hs w ha hn hs) (P : Ps w pa pn ps) (b1 : mn ≤ 140737488351232) (b2 : hn ≤ 140737488351232) (b3 : pn ≤ 140737488351232) (hno : ¬ wrong m hs ps = 0) :
    Calls Tryd.prog 20 #[.agg #[.slice ma mn mc, .slice ha hn hc], .slice pa pn pc] w fun e w' => e = .returned (.tuple #[.agg #[.slice none 0 0, .slice none 0 0, .slice none 0 0, .int .i64 0], .int .i64 (wrong m hs ps)]) ∧ Gr w w' := by
  have HM : Hid (∀ W : World, Gr w W → Calls Tryd.prog 28 #[.agg #[.slice ma mn mc, .slice ha hn hc], .slice pa pn pc] W fun e w' => e = .returned (.tuple #[.agg #[.slice none 0 0, .slice none 0 0, .slice none 0 0, .int .i64 0], .int .i64 (wrong m hs ps)]) ∧ Gr W w') := fun W G => NewBoard_no mc hc pc mn hmn (H.of G) (P.of G) b1 b2 b3 hno
  clear H P hmn
  generalize wrong m hs ps = E at *
  have hE : (E != 0) = true := by simpa using hno
  clear hno
  go_enter Tryd.func20, Tryd.ntmps20
  go_wp2_with fail
  refine (HM.out _ (((Gr.refl _).alloc _).alloc _)).mono ?_
  rintro e w1 ⟨rfl, G1⟩
  have HG1 : Hid (Gr w w1) := (((Gr.refl _).alloc _).alloc _).trans G1
  have HB : Hid (w1.heap[w.heap.size + 1]? = some (.cells #[.slice none 0 0, .slice none 0 0, .slice none 0 0, .int .i64 0] 40 (0, 0))) := (two_of G1).2
  have hlt : w.heap.size + 1 < w1.heap.size := (Array.getElem?_eq_some_iff.1 HB.out).1
  clear G1 HM
  have HI : Hid ((Tryd.prog.info? 40).map (·.size) = some 4) := iS
  have HB2 : Hid (∀ Y : Array Value, (w1.alloc (.cells Y 72)).heap[w.heap.size + 1]? = some (.cells #[.slice none 0 0, .slice none 0 0, .slice none 0 0, .int .i64 0] 40 (0, 0))) := fun Y => Hr.heap_of_gr ((Gr.refl _).alloc _) HB.out
  go_wp2_with (refine wpList_store_row rfl 40 _ _ rfl (w.heap.size + 1) #[.slice none 0 0, .slice none 0 0, .slice none 0 0, .int .i64 0] rfl rfl 40 _ ?hb HI.out rfl (by kernel_rfl) ?_; (case hb => exact HB2.out _))
  refine bodyPost_ret (v := .tuple #[.agg _, .int .i64 E]) (Hr.results_cell_tmp' Tryd.results20 _ _ _ _ _ (0, 0) _ _ rfl rfl (setRow_heap _ _ _ _ _ (0, 0) (HB2.out _)) Tryd.underlying40 rfl HI.out) rfl ⟨rfl, ?_⟩
  exact gr_setRow (HG1.out.alloc _) (Nat.le_succ _) _

set_option maxHeartbeats 4000000 in
set_option maxRecDepth 100000 in
theorem Run_yes {ma ha pa : Option Addr} {hn pn : Nat} (mc hc pc : Nat) {m : List UInt8} {hs : List Hv} {ps : List (Int × Int)} {w : World} (mn : Nat) (T : TT w w.heap.size) (M : Mem w ma mn m) (hcap : ma = none → mc = 0) (H : Hs w ha hn hs) (P : Ps w pa pn ps) (hy : wrong m hs ps = 0) :
    Calls Tryd.prog 20 #[.agg #[.slice ma mn mc, .slice ha hn hc], .slice pa pn pc] w fun e w' => ∃ v, e = .returned (.tuple #[v, .int .i64 0]) ∧ Shn w' v hn mn (play ⟨hs, m, [], 0⟩ (nums ps)) ∧ Gr w w' := by
  obtain ⟨b1, b2, b4, hmay, b3, hpk⟩ := wrong_ok hy
  have hml := M.len
  have hhl := H.len
  have hpl := P.len
  have HN : Hid (∀ W : World, Gr w W → Calls Tryd.prog 28 #[.agg #[.slice ma mn mc, .slice ha hn hc], .slice pa pn pc] W fun e w' => ∃ a c gh hc, e = .returned (.tuple #[.agg #[.slice a mn c, .slice (some ⟨gh, 0, none⟩) hn hc, .slice none 0 0, .int .i64 0], .int .i64 0]) ∧ Own w' 0 (.slice a mn c) m ∧ W.heap.size ≤ gh ∧ HRow w' gh hs ∧ Gr W w') := fun W G => NewBoard_yes mc hc pc mn (M.of G) hcap (H.of G) (P.of G) (by omega) hy (by omega) (by omega) (by omega)
  have F0 : Fit ⟨hs, m, [], 0⟩ hn mn := ⟨hhl, hml, fun h hm => ⟨H.ok h hm, hmay h hm⟩⟩
  have HF0 : Hid (Fit ⟨hs, m, [], 0⟩ hn mn) := F0
  have HT : Hid (TT w w.heap.size) := T
  have HP : Hid (Ps w pa pn ps) := P
  have HPL : Hid (ps.length = pn) := hpl
  have HPK : Hid (∀ p ∈ ps, 0 ≤ p.1 ∧ p.1 < hn ∧ 0 ≤ p.2 ∧ p.2 ≤ 400) := by rw [hhl] at hpk; exact hpk
  have HHL : Hid (hs.length = hn) := hhl
  have HML : Hid (m.length = mn) := hml
  have c4 : hn ≤ 4 := by omega
  have m4 : mn ≤ 4096 := by omega
  have p4 : pn ≤ 300 := by omega
  clear M H P hy hcap T F0 hmay hpk hml hhl hpl b1 b2 b4 b3
  go_enter Tryd.func20, Tryd.ntmps20
  go_wp2_with fail
  refine (HN.out _ (((Gr.refl _).alloc _).alloc _)).mono ?_
  rintro e w1 ⟨a1, c1, gh, hc1, rfl, O1, hgh, R1, G1⟩
  have HG1 : Hid (Gr w w1) := (((Gr.refl _).alloc _).alloc _).trans G1
  have HS1 : Hid (w1.heap[w.heap.size + 1]? = some (.cells #[.slice none 0 0, .slice none 0 0, .slice none 0 0, .int .i64 0] 40 (0, 0))) := (two_of G1).2
  have hlt : w.heap.size + 1 < w1.heap.size := (Array.getElem?_eq_some_iff.1 HS1.out).1
  have hgh2 : w.heap.size + 2 ≤ gh := by simpa using hgh
  have HO1 : Hid (Own w1 0 (.slice a1 mn c1) m) := O1
  have HR1 : Hid (HRow w1 gh hs) := R1
  have HB1 : Hid (∀ Y : Array Value, Bw 72 [] ((w1.alloc (.cells Y 72)).setRow w1.heap.size #[.slice a1 mn c1, .slice (some ⟨gh, 0, none⟩) hn hc1, .slice none 0 0, .int .i64 0]) (w.heap.size + 2) w1.heap.size (.slice a1 mn c1) gh hc1 (.slice none 0 0) ⟨hs, m, [], 0⟩) := fun Y => by
    have G : Gr w1 ((w1.alloc (.cells Y 72)).setRow w1.heap.size #[.slice a1 mn c1, .slice (some ⟨gh, 0, none⟩) hn hc1, .slice none 0 0, .int .i64 0]) := gr_setRow ((Gr.refl _).alloc _) (Nat.le_refl _) _
    refine ⟨by decide, by decide, by decide, by omega, ?_, own_gr HO1.out G, hgh2, HR1.out.of G, World.ownsRow_nil _ _ _ _⟩
    show _ = some (Obj.cells #[.slice a1 mn c1, .slice (some ⟨gh, 0, none⟩) hs.length hc1, .slice none 0 0, .int .i64 ((0 : Nat) : Int)] 72 (0, 0))
    rw [HHL.out]
    exact setRow_heap _ _ _ _ _ (0, 0) (heap_alloc_new w1 _)
  have HI : Hid ((Tryd.prog.info? 72).map (·.size) = some 4) := iB
  clear O1 R1 G1 hgh HN
  go_wp2_with (refine wpList_store_row rfl 72 _ _ rfl w1.heap.size #[.slice a1 mn c1, .slice (some ⟨gh, 0, none⟩) hn hc1, .slice none 0 0, .int .i64 0] rfl rfl 72 _ (heap_alloc_new w1 _) HI.out rfl (one_bd _ _ _ _ _ _ _ _ _ _) ?_)
  go_loopw [22] (fun i wr => ∃ j : Nat, j ≤ pn ∧ i = .int .i64 j ∧ Bd 72 [] wr (w.heap.size + 2) w1.heap.size (play ⟨hs, m, [], 0⟩ ((nums ps).take j)) ∧ Few (play ⟨hs, m, [], 0⟩ ((nums ps).take j)) (400 * j) ∧ Below (w.heap.size + 2) w1 wr) (fun i _ => pn - (intOf i).toNat)
  case atStart =>
    refine ⟨0, Nat.zero_le _, rfl, ?_, ⟨Nat.le_refl _, Nat.le_refl _⟩, ?_⟩
    · exact ⟨_, _, _, _, HB1.out _⟩
    · exact Below.mono (gr_setRow ((Gr.refl w1).alloc _) (Nat.le_refl _) _) (by omega)
  case round =>
    obtain ⟨j, hj, rfl, B, fw, L⟩ := hrel
    have HB : Hid (Bd 72 [] wr (w.heap.size + 2) w1.heap.size (play ⟨hs, m, [], 0⟩ ((nums ps).take j))) := B
    have HFW : Hid (Few (play ⟨hs, m, [], 0⟩ ((nums ps).take j)) (400 * j)) := fw
    have HL : Hid (Below (w.heap.size + 2) w1 wr) := L
    have HGW : Hid (Gr w wr) := gr_trans2 HG1.out L (by omega)
    clear B fw L HB1
    by_cases hlt2 : j < pn
    · obtain ⟨p, hp⟩ : ∃ p, ps[j]? = some p := ⟨_, List.getElem?_eq_getElem (by rw [HPL.out]; exact hlt2)⟩
      obtain ⟨z0, z1, z2, z3⟩ := HPK.out p (List.mem_of_getElem? hp)
      obtain ⟨b', o', rfl, hb', hcell'⟩ := HP.out.spot (by omega)
      have q0 : wr.cell? ⟨b', o' + j * 2, none⟩ = some (.int .i64 p.1) := (HGW.out.cell _ (by exact hb')).trans (hcell' j p hp).1
      have q1 : wr.cell? ⟨b', o' + j * 2 + 1, none⟩ = some (.int .i64 p.2) := (HGW.out.cell _ (by exact hb')).trans (hcell' j p hp).2
      have HTK : Hid ((nums ps).take (j + 1) = (nums ps).take j ++ [(p.1.toNat, p.2.toNat)]) := nums_get hp
      have HFs : Hid (Fit (play ⟨hs, m, [], 0⟩ ((nums ps).take j)) hn mn) := play_fit _ (fun q hq => by
        obtain ⟨r, hr, rfl⟩ := List.mem_map.1 (List.mem_of_mem_take hq)
        have := HPK.out r hr
        show r.1.toNat < hn
        omega) HF0.out
      clear hp hcell'
      obtain ⟨p1, p2⟩ := p
      simp only at *
      obtain ⟨k, rfl⟩ := Int.eq_ofNat_of_zero_le z0
      obtain ⟨n, rfl⟩ := Int.eq_ofNat_of_zero_le z2
      simp only [Int.toNat_natCast] at HTK
      have hk : k < hn := by omega
      have hn4 : n ≤ 400 := by omega
      have HNX : Hid (play ⟨hs, m, [], 0⟩ ((nums ps).take (j + 1)) = tk (play ⟨hs, m, [], 0⟩ ((nums ps).take j)) k (wk (w0 (play ⟨hs, m, [], 0⟩ ((nums ps).take j)) k) n)) := by
        unfold Hid
        rw [HTK.out, play_app, play_cons]
        exact runs_wk (by rw [HFs.out.len]; exact hk) n
      have HX := wk_ok n (w0_ok HFs.out hk)
      generalize hS : play ⟨hs, m, [], 0⟩ ((nums ps).take j) = s at *
      clear hS z0 z1 z2 z3 HTK
      obtain ⟨Mv, gh', hc', Ov, B⟩ := HB.out
      have HXo : Hid (WOk (wk (w0 s k) n) mn) := HX.1
      have HXn : Hid ((wk (w0 s k) n).n ≤ n) := by have := HX.2; have e : (w0 s k).n = 0 := rfl; unfold Hid; omega
      have HWk : Hid (∀ W : World, Gr wr W → Calls Tryd.prog 41 #[.pointer (some ⟨w1.heap.size, 0, none⟩), .agg #[.int .i64 k, .int .i64 n]] W fun e w' => ∃ d, e = .returned (.agg (qA d)) ∧ d.h.Ok ∧ Dq w' W.heap.size d (wk (w0 s k) n) ∧ Gr W w') := fun W G => Work_any (B.of G) HFs.out m4 (HT.out.grow (HGW.out.trans G)) hk c4 hn4
      have HTk : Hid (∀ (W : World) (d : Qv) (b : Nat), Gr wr W → d.h.Ok → Dq W b d (wk (w0 s k) n) → Calls Tryd.prog 40 #[.pointer (some ⟨w1.heap.size, 0, none⟩), .int .i64 k, .agg (qA d)] W fun e w' => e = .returned (.tuple #[]) ∧ Bd 72 [] w' (w.heap.size + 2) w1.heap.size (tk s k (wk (w0 s k) n)) ∧ Below (w.heap.size + 2) W w') := fun W d b G o D => by
        have o1 := HXo.out.out
        have o2 := HXo.out.sto
        have o3 := HXn.out
        have o4 := HFW.out.1
        have o5 := HFW.out.2
        exact (Take_any (B.of G) HFs.out.len c4 D o (fun q hq => by have := HXo.out.bd q hq; omega) (by omega) (by omega) (by omega) hk).mono fun e w' h => ⟨h.1, h.2.1, h.2.2.below⟩
      have HFN : Hid (Few (tk s k (wk (w0 s k) n)) (400 * (j + 1))) := by
        have := tk_few (k := k) HFW.out HXo.out (n := 400) (by have := HXn.out; omega)
        unfold Hid
        rw [show 400 * (j + 1) = 400 * j + 400 by omega]
        exact this
      clear HX B
      generalize wk (w0 s k) n = X at *
      have hlw : b' < wr.heap.size := Nat.lt_of_lt_of_le hb' HGW.out.size
      go_wp2_with fail
      go_region_with (first
        | (go_at_call 41; refine (HWk.out _ (by repeat (first | exact Gr.refl _ | refine Gr.drew ?_ | refine Gr.alloc ?_ _))).mono ?_; rintro e w2 ⟨d, rfl, od, D, G2⟩; have HOD : Hid d.h.Ok := od; have HD : Hid (∃ b, Dq w2 b d X) := ⟨_, D⟩; have HG2 : Hid (Gr wr w2) := Gr.trans (by repeat (first | exact Gr.refl wr | refine Gr.drew ?_ | refine Gr.alloc ?_ _)) G2; have y0 : w2.cell? ⟨wr.heap.size, 0, none⟩ = some (.int .i64 k) := (G2.cell _ (by simp)).trans (by simp); clear od D G2)
        | (go_at_call 40; obtain ⟨b2, D2⟩ := HD.out; refine (HTk.out _ d b2 (by repeat (first | exact HG2.out | refine Gr.drew ?_)) HOD.out (D2.gr (by repeat (first | exact Gr.refl _ | refine Gr.drew ?_)))).mono ?_; rintro e w3 ⟨rfl, B3, L3⟩; have HB3 : Hid (Bd 72 [] w3 (w.heap.size + 2) w1.heap.size (tk s k X)) := B3; have HL3 : Hid (Below (w.heap.size + 2) w2 w3) := Below.trans (by repeat (first | exact Below.refl _ _ | refine Below.drew ?_)) L3; clear B3 L3 D2))
      all_goals
        go_wp2_with fail
        go_roundw
        case rel => exact ⟨j + 1, by omega, by go_num, by rw [HNX.out]; exact HB3.out, by rw [HNX.out]; exact HFN.out, Below.trans HL.out (Below.trans (Below.mono HG2.out (by have := HL.out.size; omega)) HL3.out)⟩
        case measure => simp [intOf]; omega
    · have ej : j = pn := by omega
      have HE : Hid (play ⟨hs, m, [], 0⟩ ((nums ps).take j) = play ⟨hs, m, [], 0⟩ (nums ps)) := by unfold Hid; rw [ej, List.take_of_length_le (by unfold nums; rw [List.length_map, HPL.out]; exact Nat.le_refl _)]
      have HFs : Hid (Fit (play ⟨hs, m, [], 0⟩ (nums ps)) hn mn) := play_fit _ (fun q hq => by
        obtain ⟨r, hr, rfl⟩ := List.mem_map.1 hq
        have := HPK.out r hr
        show r.1.toNat < hn
        omega) HF0.out
      obtain ⟨Mv, gh', hc', Ov, B⟩ := HB.out
      rw [HE.out] at B
      generalize hS : play ⟨hs, m, [], 0⟩ (nums ps) = s at *
      have HSS : Hid (play ⟨hs, m, [], 0⟩ (nums ps) = s) := hS
      clear hS
      obtain ⟨va, vc, rfl, _⟩ := B.mem.mem
      obtain ⟨oa, oc, rfl⟩ := (owns_cells B.out).2.2
      have HBF : Hid (Bw 72 [] wr (w.heap.size + 2) w1.heap.size (.slice va s.m.length vc) gh' hc' (.slice oa s.out.length oc) s) := B
      have HMs : Hid (s.m.length = mn) := HFs.out.mem
      have HHs : Hid (s.hs.length = hn) := HFs.out.len
      have HBk : Hid (wr.heap[w1.heap.size]? = some (.cells #[.slice va mn vc, .slice (some ⟨gh', 0, none⟩) hn hc', .slice oa s.out.length oc, .int .i64 s.steps] 72 (0, 0))) := by have := B.blk; rw [HMs.out, HHs.out] at this; exact this
      have HSr : Hid (wr.heap[w.heap.size + 1]? = some (.cells #[.slice none 0 0, .slice none 0 0, .slice none 0 0, .int .i64 0] 40 (0, 0))) := (HL.out.block _ (by omega)).trans HS1.out
      have HJ : Hid ((Tryd.prog.info? 40).map (·.size) = some 4) := iS
      clear B HE HB HFW HF0 ej
      go_wp2_with (first
        | (refine wpList_load_row rfl 40 _ rfl w1.heap.size rfl 72 #[.slice va mn vc, .slice (some ⟨gh', 0, none⟩) hn hc', .slice oa s.out.length oc, .int .i64 s.steps] (0, 0) _ ?yy1 Tryd.underlying40 rfl HJ.out ?_; (case yy1 => exact HBk.out))
        | (refine wpList_store_row rfl 40 _ _ rfl (w.heap.size + 1) #[.slice va mn vc, .slice (some ⟨gh', 0, none⟩) hn hc', .slice oa s.out.length oc, .int .i64 s.steps] rfl rfl 40 #[.slice none 0 0, .slice none 0 0, .slice none 0 0, .int .i64 0] ?yy2 HJ.out rfl (one_bd _ _ _ _ _ _ _ _ _ _) ?_; (case yy2 => exact HSr.out)))
      have ne : ∀ (t : Nat) (k : Nat) (q : Array Value) (f : Nat × Nat), t ≠ 40 → wr.heap[k]? = some (.cells q t f) → (wr.setRow (w.heap.size + 1) #[.slice va mn vc, .slice (some ⟨gh', 0, none⟩) hn hc', .slice oa s.out.length oc, .int .i64 s.steps]).heap[k]? = wr.heap[k]? := fun t k q f ht hk => setRow_other _ _ _ _ (ne_of_types hk HSr.out ht)
      refine bodyPost_ret (v := .tuple #[.agg #[.slice va mn vc, .slice (some ⟨gh', 0, none⟩) hn hc', .slice oa s.out.length oc, .int .i64 s.steps], .int .i64 0]) (Hr.results_cell_tmp' Tryd.results20 _ _ _ _ _ (0, 0) _ _ rfl rfl (setRow_heap _ _ _ _ _ (0, 0) HSr.out) Tryd.underlying40 rfl HJ.out) rfl ⟨_, rfl, ?_, ?_⟩
      · rw [HSS.out]
        refine shn_own (base := w.heap.size + 2) ?_ HMs.out (HBF.out.row.to fun k o f hk => ne _ k o f (by decide) hk) HHs.out (owns_to HBF.out.out fun k o f hk => ne _ k o f (by decide) hk)
        rw [← HMs.out]
        have := HBF.out.mem.to (w' := wr.setRow (w.heap.size + 1) #[.slice va mn vc, .slice (some ⟨gh', 0, none⟩) hn hc', .slice oa s.out.length oc, .int .i64 s.steps]) fun k o f hk => ne _ k o f (by decide) hk
        rw [← HMs.out] at this
        exact this
      · exact gr_setRow HGW.out (Nat.le_succ _) _
end Go.Proofs.YtdiofidmlgliiaaDoor.Mc
/-
  A recorder of package undo, as cells of memory ('Rw'): a board, and a row of Undos of its own; how Undos are built, and a slice of one.
-/
namespace Go.Proofs.YtdiofidmlgliiaaDoor.Ud
open Go.ChangeShapes Go.WideShapes Go.ChangeAt Go.RowKit Mm Hh Hc Mc
set_option linter.unusedVariables false
set_option linter.unusedSimpArgs false

set_option maxRecDepth 100000 in
theorem built_undo {h : Hv} (o : h.Ok) (k : Int) : Tryd.prog.built 86 [(0, .int .i64 k), (1, .agg (hL h).toArray)] = some (uL ⟨k, h, 0, [], []⟩ nilS nilS).toArray := by
  obtain ⟨it, hi, hz⟩ := info_zero zU
  have hp : ∀ fs, Tryd.prog.underlying 86 = some (.struct fs) → fs.toList.mapM (fun f => (Tryd.prog.info? f.type).map fun i => (f.offset, i.size)) = some [(0, 1), (1, 37), (38, 1), (39, 1), (40, 1)] := fun fs e => by
    rw [Tryd.underlying86] at e
    injection e with e
    injection e with e
    subst e
    kernel_rfl
  have ls := hL_len o
  have z1 : (uL h00 nilS nilS).toArray.size = 41 := by simp [uL_len (u := h00) h0_ok]
  unfold Program.built
  simp only [hi, Tryd.underlying86, hz, hp _ Tryd.underlying86]
  unfold Instr.fill
  simp only [List.getElem?_toArray, List.getElem?_cons_zero]
  have e0 : (Value.int .i64 k).cells = #[.int .i64 k] := rfl
  have e1 : (Value.agg (hL h).toArray).cells = (hL h).toArray := rfl
  have e2 : (Value.agg (uL h00 nilS nilS).toArray).cells = (uL h00 nilS nilS).toArray := rfl
  rw [e0, e2, if_neg (by simp [uL_len (u := h00) h0_ok]), fold_one]
  unfold Instr.fill
  simp only [List.getElem?_toArray, List.getElem?_cons_succ, List.getElem?_cons_zero]
  rw [e1, if_neg (by simp [ls, uL_len (u := h00) h0_ok])]
  unfold Instr.fill
  refine congrArg some ?_
  apply Array.ext_getElem?
  intro i
  have a1 := fold_set 1 (hL h).toArray ((uL h00 nilS nilS).toArray.setIfInBounds 0 (.int .i64 k))
  rw [a1.2 i]
  simp only [Array.size_setIfInBounds, z1, List.size_toArray, ls]
  by_cases hi2 : 1 ≤ i ∧ i < 38
  · rw [if_pos (by omega)]
    obtain ⟨j, rfl⟩ : ∃ j, i = 1 + j := ⟨i - 1, by omega⟩
    rw [List.getElem?_toArray, List.getElem?_toArray, uL_was (u := ⟨k, h, 0, [], []⟩) o (by omega), Nat.add_sub_cancel_left]
  · rw [if_neg (by omega), Array.getElem?_setIfInBounds]
    by_cases h0' : i = 0
    · subst h0'
      rw [if_pos rfl, if_pos (by rw [z1]; omega)]
      rfl
    · rw [if_neg (fun e => h0' e.symm)]
      obtain ⟨j, rfl⟩ : ∃ j, i = 38 + j := ⟨i - 38, by omega⟩
      rw [List.getElem?_toArray, List.getElem?_toArray, uL_fld (u := h00) h0_ok, uL_fld (u := ⟨k, h, 0, [], []⟩) o]
      rfl
/-- A slice of one struct. -/
theorem fill_one {n : Nat} {A Z : Array Value} (hA : A.size = n) (hZ : Z.size = n) : Instr.fill (fun i => some (i * n, n)) Z [(0, .agg A)] = some A := by
  unfold Instr.fill
  simp only [Nat.zero_mul]
  have e1 : (Value.agg A).cells = A := rfl
  rw [e1, if_neg (by simp [hA, hZ])]
  unfold Instr.fill
  refine congrArg some ?_
  apply Array.ext_getElem?
  intro i
  have a1 := fold_set 0 A Z
  rw [a1.2 i]
  by_cases hi : i < n
  · rw [if_pos (by omega)]; simp
  · rw [if_neg (by omega), Array.getElem?_eq_none (by omega), Array.getElem?_eq_none (by omega)]
theorem step_slice1 {P : Program} {ops : Array Oper} {o : Oper} {a : Act} {w : World} {K : Act → World → Prop} {Q : Exit → Act → World → Prop} {E : Prop} (hg : o.guard = none) (t e : TypeId) (x : Operand) (ho : o.op = .buildSlice t 1 #[(0, x)])
    (A : Array Value) (n : Nat) (hx : a.eval x = .agg A) (hA : A.size = n) (hu : P.underlying t = some (.slice e)) (hi : (P.info? e).map (fun i => (i.zero.isSome, i.size)) = some (true, n)) (h0 : 0 < n) (hn : n ≤ 1000)
    (h : K (a.put o.dst (.slice (some ⟨w.heap.size, 0, none⟩) 1 1)) (w.alloc (.cells A e))) : if Region.wanted o (yielded ops a.tmps) = true then Oper.wp P o a w K Q else E := by
  rw [if_pos (by simp [Region.wanted, hg])]
  cases hie : P.info? e with
  | none => simp [hie] at hi
  | some ie =>
    simp only [hie, Option.map_some, Option.some.injEq, Prod.mk.injEq] at hi
    obtain ⟨hz, hs⟩ := hi
    obtain ⟨z, hzz⟩ := Option.isSome_iff_exists.1 hz
    refine wp_buildSlice t e 1 _ ho A ie z hu hie hzz (by rw [hs]; omega) (by rw [hs]; omega) ?_ h
    simp only [List.map_toArray, List.map_cons, List.map_nil, hx, hs, Nat.one_mul]
    exact fill_one hA (by simp)
theorem wpList_slice1 {P : Program} {ops : Array Oper} {rest : List Oper} {o : Oper} {a : Act} {w : World} {Q : Exit → Act → World → Prop} (hg : o.guard = none) (t e : TypeId) (x : Operand) (ho : o.op = .buildSlice t 1 #[(0, x)])
    (A : Array Value) (n : Nat) (hx : a.eval x = .agg A) (hA : A.size = n) (hu : P.underlying t = some (.slice e)) (hi : (P.info? e).map (fun i => (i.zero.isSome, i.size)) = some (true, n)) (h0 : 0 < n) (hn : n ≤ 1000)
    (h : wpList P ops Q rest (a.put o.dst (.slice (some ⟨w.heap.size, 0, none⟩) 1 1)) (w.alloc (.cells A e))) : wpList P ops Q (o :: rest) a w :=
  wpList_plain hg fun K hK => by
    have := step_slice1 (ops := #[]) (E := True) (Q := Q) hg t e x ho A n hx hA hu hi h0 hn (hK _ _ h)
    rwa [if_pos (by simp [Region.wanted, hg])] at this
theorem iUz : (Tryd.prog.info? 86).map (fun i => (i.zero.isSome, i.size)) = some (true, 41) := by kernel_rfl
theorem uL_set38 {u : Uv} {b l : Value} (o : u.was.Ok) (f : Int) : (uL u b l).toArray.setIfInBounds 38 (.int .u32 f) = (uL { u with fr := f } b l).toArray := by
  have := hL_len o
  unfold uL
  rw [List.setIfInBounds_toArray, List.set_cons_succ, List.set_append_right _ _ (by omega), this]
  rfl
theorem uL_set39 {u : Uv} {b l b' : Value} (o : u.was.Ok) : (uL u b l).toArray.setIfInBounds 39 b' = (uL u b' l).toArray := by
  have := hL_len o
  unfold uL
  rw [List.setIfInBounds_toArray, List.set_cons_succ, List.set_append_right _ _ (by omega), this]
  rfl
theorem uL_set40 {u : Uv} {b l l' : Value} (o : u.was.Ok) : (uL u b l).toArray.setIfInBounds 40 l' = (uL u b l').toArray := by
  have := hL_len o
  unfold uL
  rw [List.setIfInBounds_toArray, List.set_cons_succ, List.set_append_right _ _ (by omega), this]
  rfl

/-- A recorder at block g. -/
structure Rw (w : World) (base g : Nat) (M : Value) (gh hc : Nat) (O U : Value) (xs : List Value) (s : Sh) (us : List Uv) : Prop where
  bw : Bw 76 [U] w base g M gh hc O s
  row : w.ownsRow base 86 41 U us.length xs
  ux : Ux w us xs
def Rc (w : World) (base g : Nat) (s : Sh) (us : List Uv) : Prop := ∃ M gh hc O U xs, Rw w base g M gh hc O U xs s us
/-- What a recorder's method leaves: of what lay below 'base' nothing has turned, nor any row but recorders, harts, words and Undos. -/
structure Fk (base : Nat) (w w' : World) : Prop where
  below : Below base w w'
  keep : ∀ (k : Nat) (q : Array Value) (t : Nat) (f : Nat × Nat), w.heap[k]? = some (.cells q t f) → t ≠ 76 → t ≠ 70 → t ≠ 59 → t ≠ 86 → w'.heap[k]? = w.heap[k]?
section
variable {w w' a b c : World} {base g gh hc : Nat} {M O U : Value} {xs : List Value} {s : Sh} {us : List Uv}
theorem Fk.refl (base : Nat) (w : World) : Fk base w w := ⟨Below.refl _ _, fun _ _ _ _ _ _ _ _ _ => rfl⟩
theorem Fk.trans (h : Fk base a b) (k : Fk base b c) : Fk base a c := ⟨h.below.trans k.below, fun i q t f e t1 t2 t3 t4 => (k.keep i q t f ((h.keep i q t f e t1 t2 t3 t4).trans e) t1 t2 t3 t4).trans (h.keep i q t f e t1 t2 t3 t4)⟩
theorem Fk.ofGr (G : Gr w w') (hb : base ≤ w.heap.size) : Fk base w w' := ⟨Below.mono G hb, fun i q t f e _ _ _ _ => G.block i (gs e).1⟩
theorem Fk.ofFe (F : Fe 76 base w w') : Fk base w w' := ⟨F.below, fun i q t f e t1 t2 t3 _ => F.cells e t1 t2 t3⟩
theorem Fk.set {ty : Nat} {Y : Array Value} {f : Nat × Nat} (h : Fk base a w) (hy : w.heap[g]? = some (.cells Y ty f)) (ht : ty = 76 ∨ ty = 86) (hg : base ≤ g) (i : Nat) (v : Value) : Fk base a (w.setCell ⟨g, i, none⟩ v) := ⟨Below.setCell h.below (by exact hg) _, fun k q t f' e t1 t2 t3 t4 => by
  have e1 := h.keep k q t f' e t1 t2 t3 t4
  rw [hso (by exact ne_of_types (e1.trans e) hy (by rcases ht with rfl | rfl <;> assumption))]
  exact e1⟩
theorem Fk.row {k : Nat} {q : Array Value} {t : Nat} {f : Nat × Nat} (h : Fk base w w') (e : w.heap[k]? = some (.cells q t f)) (t1 : t ≠ 76) (t2 : t ≠ 70) (t3 : t ≠ 59) (t4 : t ≠ 86) : w'.heap[k]? = some (.cells q t f) := (h.keep k q t f e t1 t2 t3 t4).trans e
theorem Fk.grown {n : Nat} (hO : w.ownsRow base 86 41 U n xs) (q : w.grownBy w' U.ownBlock) (hb : base ≤ w.heap.size) : Fk base w w' := ⟨(Below.refl base w).grown q hb fun k e => (hO.lt k e).1, fun k o t f e _ _ _ t4 => grown_keep hO q t4 e⟩
theorem Rw.of (R : Rw w base g M gh hc O U xs s us) (G : Gr w w') : Rw w' base g M gh hc O U xs s us := ⟨R.bw.of G, owns_gr R.row G, R.ux.to (Ky.ofGr G)⟩
theorem Rc.of (R : Rc w base g s us) (G : Gr w w') : Rc w' base g s us := by
  obtain ⟨M, gh, hc, O, U, xs, R⟩ := R
  exact ⟨M, gh, hc, O, U, xs, R.of G⟩
/-- Rows of other types than Undos stay: so does a board. -/
theorem bw_toN {rs : List Value} (B : Bw 76 rs w base g M gh hc O s) (q : ∀ (k : Nat) (o : Array Value) (t : Nat) (f : Nat × Nat), t ≠ 86 → w.heap[k]? = some (.cells o t f) → w'.heap[k]? = w.heap[k]?) : Bw 76 rs w' base g M gh hc O s :=
  ⟨B.t1, B.t2, B.t3, B.bg, (q _ _ _ _ (by decide) B.blk).trans B.blk, B.mem.to fun k o f e => q k o _ f (by decide) e, B.bh, B.row.to fun k o f e => q k o _ f (by decide) e, owns_to B.out fun k o f e => q k o _ f (by decide) e⟩
/-- A board's method is done. -/
theorem Rw.take (R : Rw w base g M gh hc O U xs s us) {s' : Sh} (B : Bd 76 [U] w' base g s') (F : Fe 76 base w w') : ∃ M' gh' hc' O', Rw w' base g M' gh' hc' O' U xs s' us := by
  obtain ⟨M', gh', hc', O', B⟩ := B
  exact ⟨M', gh', hc', O', B, owns_to R.row fun k o f e => F.cells e (by decide) (by decide) (by decide), R.ux.to fun k o t f ht e => F.cells e (by rcases ht with rfl | rfl <;> decide) (by rcases ht with rfl | rfl <;> decide) (by rcases ht with rfl | rfl <;> decide)⟩
/-- One more Undo appended, and the slice stored. -/
theorem Rw.put (R : Rw w base g M gh hc O U xs s us) {u : Uv} {x : List Value} (hu : Uo w u x) (hx : x.length = 41) {v : Value} {n : Nat} (hn : n = us.length + 1) (hown : w'.ownsRow base 86 41 v n (xs ++ x)) (q : w.grownBy w' U.ownBlock) :
    w'.cell? ⟨g, 4, none⟩ = some U ∧ w'.frozen? ⟨g, 4, none⟩ = false ∧ Rc (w'.setCell ⟨g, 4, none⟩ v) base g s (us ++ [u]) ∧ Fk base w (w'.setCell ⟨g, 4, none⟩ v) := by
  have st : ∀ (k : Nat) (o : Array Value) (t : Nat) (f : Nat × Nat), t ≠ 86 → w.heap[k]? = some (.cells o t f) → w'.heap[k]? = w.heap[k]? := fun k o t f ht e => grown_keep R.row q ht e
  have B1 := bw_toN R.bw st
  have B2 : Bw 76 [v] (w'.setCell ⟨g, 4, none⟩ v) base g M gh hc O s := B1.setR 0 v
  have nx : ∀ (k : Nat) (o : Array Value) (t : Nat) (f : Nat × Nat), t ≠ 76 → w'.heap[k]? = some (.cells o t f) → (w'.setCell ⟨g, 4, none⟩ v).heap[k]? = w'.heap[k]? := fun k o t f ht e => hso (by exact ne_of_types e B1.blk ht)
  have ky : Ky w (w'.setCell ⟨g, 4, none⟩ v) := fun k o t f ht e => by
    have e1 := st k o t f (by rcases ht with rfl | rfl <;> decide) e
    exact (nx k o t f (by rcases ht with rfl | rfl <;> decide) (e1.trans e)).trans e1
  refine ⟨B1.rest 0, B1.fz 4, ⟨M, gh, hc, O, v, xs ++ x, B2, ?_, (R.ux.to ky).snoc (hu.to ky) hx⟩, (Fk.grown R.row q R.bw.base_le).set B1.blk (.inl rfl) R.bw.bg 4 v⟩
  have := owns_to hown fun k o f e => nx k o _ f (by decide) e
  rw [List.length_append, List.length_singleton, ← hn]
  exact this
end
theorem atW {p : World → Prop} {x : World} (F : World → Prop) (hF : F x) (h : ∀ y, F y → p y) : p x := h x hF
theorem szC (w : World) (p : Addr) (v : Value) : (w.setCell p v).heap.size = w.heap.size := by simp
structure One (P : Prop) : Prop where
  out : P
theorem shareP {P Q : Prop} (h : One P → Q) (p : P) : Q := h ⟨p⟩
theorem tt_up {w : World} {b n : Nat} (T : TT w b) (h : b ≤ n) : TT w n := ⟨T.tab, ⟨T.tb.sizes, T.tb.opers, Nat.lt_of_lt_of_le T.tb.b1 h, Nat.lt_of_lt_of_le T.tb.b2 h⟩, Nat.lt_of_lt_of_le T.b1 h, Nat.lt_of_lt_of_le T.b2 h⟩
theorem tt_below {w w' : World} {b : Nat} (T : TT w b) (h : Below b w w') : TT w' b :=
  ⟨⟨fun i n e => (Below.cell h (by exact T.b1)).trans (T.tab.shapes i n e), fun i n e => (Below.cell h (by exact T.b2)).trans (T.tab.uppers i n e)⟩, ⟨fun i n e => (Below.cell h (by exact T.tb.b1)).trans (T.tb.sizes i n e), fun i n e => (Below.cell h (by exact T.tb.b2)).trans (T.tb.opers i n e), T.tb.b1, T.tb.b2⟩, T.b1, T.b2⟩
end Go.Proofs.YtdiofidmlgliiaaDoor.Ud
