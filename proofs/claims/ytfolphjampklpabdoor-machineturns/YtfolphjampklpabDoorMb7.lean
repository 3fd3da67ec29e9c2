/-
  append from whatever slice, nil or not; what a board keeps while its harts, its memory, what came out and its steps are set.
-/
import Derived.Test.YtfolphjampklpabDoorMb5
import Derived.Test.YtfolphjampklpabDoorMb6
import Derived.Laws.OwnMore
namespace Go.Proofs.YtfolphjampklpabDoor.Mc
open Go.ChangeShapes Go.WideShapes Go.ChangeAt Go.RowKit Mm Hh Hc
set_option linter.unusedVariables false
set_option linter.unusedSimpArgs false

/-- The slice vx, nil or not, reads as m elements of sz cells: news. -/
def Src (w : World) (vx : Value) (m sz : Nat) (news : List Value) : Prop :=
  (vx = .slice none 0 0 ∧ m = 0 ∧ news = []) ∨ ∃ ad c, vx = .slice (some ad) m c ∧ news.length = m * sz ∧ ∀ j u, news[j]? = some u → w.cell? (ad.add j) = some u
theorem Src.own {w : World} {base e sz n : Nat} {v : Value} {xs : List Value} (h : w.ownsRow base e sz v n xs) : Src w v n sz xs := by
  obtain ⟨hl, h⟩ := h
  rcases h with ⟨rfl, rfl⟩ | ⟨g, cap, cur, rfl, _, hg, _, _, _, ht⟩
  · exact .inl ⟨rfl, rfl, List.eq_nil_of_length_eq_zero (by simpa using hl)⟩
  · refine .inr ⟨_, cap, rfl, hl, fun j u hj => ?_⟩
    rw [add_at, Nat.zero_add, cell_of_row _ _ _ _ _ _ hg]
    rw [← ht] at hj
    rw [List.getElem?_take] at hj
    split at hj
    · simpa using hj
    · cases hj
theorem Src.gr {w w' : World} {vx : Value} {m sz : Nat} {news : List Value} (h : Src w vx m sz news) (G : Gr w w') : Src w' vx m sz news := by
  rcases h with h | ⟨ad, c, e, hl, hc⟩
  · exact .inl h
  · exact .inr ⟨ad, c, e, hl, fun j u hj => (G.cell _ (World.block_lt_of_cell? w _ (hc j u hj))).trans (hc j u hj)⟩
section
variable {P : Program} {w : World} {base e size bytes n m : Nat} {i : TypeInfo} {z : Value} {t : TypeId}
theorem run_append_src (ty : TypeId) (h1 : P.underlying t = some (.slice e)) (h2 : P.info? e = some i) (h3 : i.zero = some z) (h4 : i.size = size) (h5 : i.bytes = bytes) (h6 : z.cells.size = size) (h7 : 0 < size)
    {v vx : Value} {olds news : List Value} (hown : w.ownsRow base e size v n olds) (hsrc : Src w vx m size news) (h1c : ∀ u ∈ news, u.oneCell' = true) (b1 : n + m ≤ maxLen) (b2 : (n + m) * bytes ≤ 140737488355328) (hbase : base ≤ w.heap.size) :
    ∃ v' w', (Builtin.append_ #[t, t] ty #[v, vx]).run P w = .ok v' w' ∧ w'.ownsRow base e size v' (n + m) (olds ++ news) ∧ w.grownBy w' v.ownBlock := by
  rcases hsrc with ⟨rfl, rfl, rfl⟩ | ⟨ad, c, rfl, hl, hc⟩
  · exact ⟨v, w, run_append_owned_none w base t ty e i size h1 h2 v n olds hown, by simpa using hown, ⟨rfl, rfl, rfl, Nat.le_refl _, fun _ _ _ => rfl⟩⟩
  · obtain ⟨v', w', hrun, r1, r2, _⟩ := run_append_own (P := P) w base t ty e i z size bytes h1 h2 h3 h4 h5 h6 h7 v n olds hown ad m c news hl hc h1c b1 b2 hbase
    exact ⟨v', w', hrun, r1, r2⟩
theorem step_append_src {ops : Array Oper} {o : Oper} {a : Act} {K : Act → World → Prop} {Q : Exit → Act → World → Prop} {E : Prop}
    (hg : o.guard = none) (s x : Operand) (hop : o.op = Op.call { callee := Callee.builtin Builtin.append, args := #[s, x], argTypes := #[t, t] })
    (h1 : P.underlying t = some (.slice e)) (h2 : P.info? e = some i) (h3 : i.zero = some z) (h4 : i.size = size) (h5 : i.bytes = bytes) (h6 : z.cells.size = size) (h7 : 0 < size)
    {v vx : Value} {olds news : List Value} (hs : a.eval s = v) (hx : a.eval x = vx) (hown : w.ownsRow base e size v n olds) (hsrc : Src w vx m size news) (h1c : ∀ u ∈ news, u.oneCell' = true) (b1 : n + m ≤ maxLen) (b2 : (n + m) * bytes ≤ 140737488355328) (hbase : base ≤ w.heap.size)
    (hK : ∀ v' w', w'.ownsRow base e size v' (n + m) (olds ++ news) → w.grownBy w' v.ownBlock → K (a.put o.dst v') w') :
    if Region.wanted o (yielded ops a.tmps) = true then Oper.wp P o a w K Q else E := by
  have hw : Region.wanted o (yielded ops a.tmps) = true := by simp [Region.wanted, hg]
  rw [if_pos hw]
  obtain ⟨v', w', hrun, r1, r2⟩ := run_append_src (P := P) o.type h1 h2 h3 h4 h5 h6 h7 hown hsrc h1c b1 b2 hbase
  unfold Oper.wp
  simp [execOp, hop, resolve, invoke, builtin, hs, hx, hrun, Result.andThen]
  exact hK v' w' r1 r2
theorem wpList_append_src {ops : Array Oper} {rest : List Oper} {o : Oper} {a : Act} {Q : Exit → Act → World → Prop}
    (hg : o.guard = none) (s x : Operand) (hop : o.op = Op.call { callee := Callee.builtin Builtin.append, args := #[s, x], argTypes := #[t, t] })
    (h1 : P.underlying t = some (.slice e)) (h2 : P.info? e = some i) (h3 : i.zero = some z) (h4 : i.size = size) (h5 : i.bytes = bytes) (h6 : z.cells.size = size) (h7 : 0 < size)
    {v vx : Value} {olds news : List Value} (hs : a.eval s = v) (hx : a.eval x = vx) (hown : w.ownsRow base e size v n olds) (hsrc : Src w vx m size news) (h1c : ∀ u ∈ news, u.oneCell' = true) (b1 : n + m ≤ maxLen) (b2 : (n + m) * bytes ≤ 140737488355328) (hbase : base ≤ w.heap.size)
    (hK : ∀ v' w', w'.ownsRow base e size v' (n + m) (olds ++ news) → w.grownBy w' v.ownBlock → wpList P ops Q rest (a.put o.dst v') w') : wpList P ops Q (o :: rest) a w := by
  refine wpList_plain hg fun K hk => ?_
  obtain ⟨v', w', hrun, r1, r2⟩ := run_append_src (P := P) o.type h1 h2 h3 h4 h5 h6 h7 hown hsrc h1c b1 b2 hbase
  unfold Oper.wp
  simp [execOp, hop, resolve, invoke, builtin, hs, hx, hrun, Result.andThen]
  exact hk _ _ (hK v' w' r1 r2)
end
theorem step_store_mid {P : Program} {ops : Array Oper} {o : Oper} {a : Act} {w : World} {K : Act → World → Prop} {Q : Exit → Act → World → Prop} {E : Prop} (hg : o.guard = none) (ty : TypeId) (x y : Operand) (ho : o.op = .store ty x y)
    (b j : Nat) (cells : Array Value) (hx : a.eval x = .pointer (some ⟨b, j, none⟩)) (hy : a.eval y = .agg cells) (ht : w.there b j cells.size) (hi : (P.info? ty).map (·.size) = some cells.size) (h1 : cells.all (·.oneCell') = true)
    (h : K (a.put o.dst undef) (w.setCells b j cells.toList)) : if Region.wanted o (yielded ops a.tmps) = true then Oper.wp P o a w K Q else E := by
  rw [if_pos (by simp [Region.wanted, hg])]
  exact wp_store_mid ty x y ho b j cells hx hy ht hi h1 h
theorem held_store_mid {P : Program} {md : Region.Mode} {ops : Array Oper} {Q : Exit → Act → World → Prop} {S : World → Prop} {fuel i : Nat} {listed : Array Bool} {o : Oper} {a : Act} {w : World} (hr : Region.ready md ops listed = [i]) (hoi : ops[i]? = some o) (hg : o.guard = none) (ty : TypeId) (x y : Operand) (ho : o.op = .store ty x y)
    (b j : Nat) (cells : Array Value) (hx : a.eval x = .pointer (some ⟨b, j, none⟩)) (hy : a.eval y = .agg cells) (ht : w.there b j cells.size) (hi : (P.info? ty).map (·.size) = some cells.size) (h1 : cells.all (·.oneCell') = true)
    (hS : S (w.setCells b j cells.toList)) (h : wpAnyH P md ops Q S fuel (listed.setIfInBounds i true) (a.put o.dst undef) (w.setCells b j cells.toList)) : wpAnyH P md ops Q S (fuel + 1) listed a w :=
  wpAnyH_ready hr (by simp) (AllReadyH.cons hoi (fun K hK => step_store_mid hg ty x y ho b j cells hx hy ht hi h1 (hK.out _ _ hS fun _ => h)) AllReadyH.nil)
theorem words_one (os : List Int) : ∀ u ∈ os.map (Value.int .u32), u.oneCell' = true := by
  intro u hu
  obtain ⟨b, _, rfl⟩ := List.mem_map.1 hu
  rfl
theorem infoW : (Tryd.prog.info? 38).map (fun i => (i.zero, i.size, i.bytes)) = some (some (Value.int .u32 0), 1, 4) := by kernel_rfl

/-- Only the harts' block has turned: what is of another type is as it was. -/
theorem ch_keep {w w' : World} {gh : Nat} {hs : List Hv} (R : HRow w gh hs) (q : Ch gh w w') {t : Nat} (ht : t ≠ 52) {k : Nat} {o : Array Value} {f : Nat × Nat} (hk : w.heap[k]? = some (.cells o t f)) : w'.heap[k]? = w.heap[k]? := by
  obtain ⟨rest, e⟩ := R.row
  exact q.block k (Array.getElem?_eq_some_iff.1 hk).1 (fun h => ne_of_types hk e ht (by injection h))
theorem Bw.ch {w w' : World} {base g gh hc : Nat} {M O : Value} {s : Sh} (B : Bw w base g M gh hc O s) (q : Ch gh w w') {hs : List Hv} (R : HRow w' gh hs) (hl : hs.length = s.hs.length) : Bw w' base g M gh hc O ⟨hs, s.m, s.out, s.steps⟩ :=
  ⟨B.bg, by show w'.heap[g]? = some (.cells #[M, .slice (some ⟨gh, 0, none⟩) hs.length hc, O, .int .i64 s.steps] _ _); rw [hl]; exact (ch_keep B.row q (by decide) B.blk).trans B.blk, B.mem.to fun k o f hk => ch_keep B.row q (by decide) hk, B.bh, R, owns_to B.out fun k o f hk => ch_keep B.row q (by decide) hk⟩
theorem Dq.ch {w w' : World} {b gh : Nat} {d : Qv} {x : Wk} {hs : List Hv} (D : Dq w b d x) (R : HRow w gh hs) (q : Ch gh w w') : Dq w' b d x :=
  ⟨D.hh, D.n, D.mem.to fun k o f hk => ch_keep R q (by decide) hk, owns_to D.out fun k o f hk => ch_keep R q (by decide) hk, owns_to D.sto fun k o f hk => ch_keep R q (by decide) hk⟩
theorem Ch.ofGr {g : Nat} {w w' : World} (G : Gr w w') : Ch g w w' := (Ch.refl g w).gr G
theorem Dq.gr {w w' : World} {b : Nat} {d : Qv} {x : Wk} (D : Dq w b d x) (G : Gr w w') : Dq w' b d x :=
  ⟨D.hh, D.n, own_gr D.mem G, owns_gr D.out G, owns_gr D.sto G⟩
theorem Ch.setCells {g : Nat} {a w : World} (h : Ch g a w) : ∀ (vs : List Value) (o : Nat), Ch g a (w.setCells g o vs)
  | [], o => h
  | v :: r, o => by rw [World.setCells]; exact Ch.setCells (h.setCell o v) r (o + 1)
theorem Bw.cell {w : World} {base g gh hc : Nat} {M O : Value} {s : Sh} (B : Bw w base g M gh hc O s) (i : Nat) : w.cell? ⟨g, i, none⟩ = (#[M, .slice (some ⟨gh, 0, none⟩) s.hs.length hc, O, .int .i64 s.steps] : Array Value)[i]? := cell_of_row _ _ _ _ _ _ B.blk
theorem Bw.fz {w : World} {base g gh hc : Nat} {M O : Value} {s : Sh} (B : Bw w base g M gh hc O s) (i : Nat) : w.frozen? ⟨g, i, none⟩ = false := frozen_of_row _ _ _ _ _ B.blk
theorem Bw.base_le {w : World} {base g gh hc : Nat} {M O : Value} {s : Sh} (B : Bw w base g M gh hc O s) : base ≤ w.heap.size := Nat.le_trans B.bg (Nat.le_of_lt (Array.getElem?_eq_some_iff.1 B.blk).1)
/-- A cell of the board's own block set: what is of another type is as it was. -/
theorem bw_other {w : World} {base g gh hc : Nat} {M O : Value} {s : Sh} (B : Bw w base g M gh hc O s) (i : Nat) (v : Value) {t : Nat} (ht : t ≠ 46) {k : Nat} {o : Array Value} {f : Nat × Nat} (hk : w.heap[k]? = some (.cells o t f)) : (w.setCell ⟨g, i, none⟩ v).heap[k]? = w.heap[k]? :=
  heap_setCell_other _ _ _ _ (by exact ne_of_types hk B.blk ht)
theorem HRow.to {w w' : World} {g : Nat} {hs : List Hv} (r : HRow w g hs) (h : ∀ (k : Nat) (o : Array Value) (f : Nat × Nat), w.heap[k]? = some (.cells o 52 f) → w'.heap[k]? = w.heap[k]?) : HRow w' g hs := by
  obtain ⟨rest, e⟩ := r.row
  exact ⟨r.ok, rest, (h _ _ _ e).trans e⟩
theorem Bw.setM {w : World} {base g gh hc : Nat} {M O : Value} {s : Sh} (B : Bw w base g M gh hc O s) {M' : Value} {m' : List UInt8} (h : Own w 0 M' m') : Bw (w.setCell ⟨g, 0, none⟩ M') base g M' gh hc O ⟨s.hs, m', s.out, s.steps⟩ :=
  ⟨B.bg, by rw [heap_setCell_same _ _ _ _ _ _ B.blk]; rfl, h.to fun k o f hk => bw_other B _ _ (by decide) hk, B.bh, B.row.to fun k o f hk => bw_other B _ _ (by decide) hk, owns_to B.out fun k o f hk => bw_other B _ _ (by decide) hk⟩
theorem Bw.setN {w : World} {base g gh hc : Nat} {M O : Value} {s : Sh} (B : Bw w base g M gh hc O s) (n' : Nat) : Bw (w.setCell ⟨g, 3, none⟩ (.int .i64 n')) base g M gh hc O ⟨s.hs, s.m, s.out, n'⟩ :=
  ⟨B.bg, by rw [heap_setCell_same _ _ _ _ _ _ B.blk]; rfl, B.mem.to fun k o f hk => bw_other B _ _ (by decide) hk, B.bh, B.row.to fun k o f hk => bw_other B _ _ (by decide) hk, owns_to B.out fun k o f hk => bw_other B _ _ (by decide) hk⟩
/-- What came out, appended to: behind the append, and behind the store. -/
theorem grown_keep {w w' : World} {base : Nat} {O : Value} {n : Nat} {xs : List Value} {e sz : Nat} (hO : w.ownsRow base e sz O n xs) (q : w.grownBy w' O.ownBlock) {t : Nat} (ht : t ≠ e) {k : Nat} {o : Array Value} {f : Nat × Nat} (hk : w.heap[k]? = some (.cells o t f)) : w'.heap[k]? = w.heap[k]? :=
  q.block k (Array.getElem?_eq_some_iff.1 hk).1 (fun h => by
    rcases hO.2 with ⟨h0, _⟩ | ⟨g', cap, cur, hv, _, hg, _⟩
    · rw [h0] at h; cases h
    · rw [hv] at h
      injection h with h
      exact ne_of_types hk hg ht h)
theorem Bw.grown {w w' : World} {base g gh hc : Nat} {M O : Value} {s : Sh} (B : Bw w base g M gh hc O s) (q : w.grownBy w' O.ownBlock) {v : Value} {os : List Int} (ho : w'.ownsRow base 38 1 v os.length (os.map (Value.int .u32))) :
    w'.cell? ⟨g, 2, none⟩ = some O ∧ w'.frozen? ⟨g, 2, none⟩ = false ∧ Bw (w'.setCell ⟨g, 2, none⟩ v) base g M gh hc v ⟨s.hs, s.m, os, s.steps⟩ ∧ Below base w (w'.setCell ⟨g, 2, none⟩ v) := by
  have st : ∀ {t : Nat}, t ≠ 38 → ∀ {k : Nat} {o : Array Value} {f : Nat × Nat}, w.heap[k]? = some (.cells o t f) → w'.heap[k]? = w.heap[k]? := fun ht _ _ _ hk => grown_keep B.out q ht hk
  have hb := (st (by decide) B.blk).trans B.blk
  have ne : ∀ {t : Nat}, t ≠ 46 → ∀ {k : Nat} {o : Array Value} {f : Nat × Nat}, w'.heap[k]? = some (.cells o t f) → (w'.setCell ⟨g, 2, none⟩ v).heap[k]? = w'.heap[k]? := fun ht _ _ _ hk => heap_setCell_other _ _ _ _ (by exact ne_of_types hk hb ht)
  have two : ∀ {t : Nat}, t ≠ 46 → t ≠ 38 → ∀ {k : Nat} {o : Array Value} {f : Nat × Nat}, w.heap[k]? = some (.cells o t f) → (w'.setCell ⟨g, 2, none⟩ v).heap[k]? = w.heap[k]? := fun h1 h2 _ _ _ hk => by
    have e := st h2 hk
    exact (ne h1 (e.trans hk)).trans e
  refine ⟨cell_of_row _ _ _ _ _ _ hb, frozen_of_row _ _ _ _ _ hb, ⟨B.bg, by rw [heap_setCell_same _ _ _ _ _ _ hb]; rfl, B.mem.to fun k o f hk => two (by decide) (by decide) hk, B.bh, B.row.to fun k o f hk => two (by decide) (by decide) hk, owns_to ho fun k o f hk => ne (by decide) hk⟩, ?_⟩
  refine Below.setCell ((Below.refl base w).grown q (Nat.le_trans B.bg (Nat.le_of_lt (Array.getElem?_eq_some_iff.1 B.blk).1)) fun k e => (B.out.lt k e).1) (by exact B.bg) _
end Go.Proofs.YtfolphjampklpabDoor.Mc
