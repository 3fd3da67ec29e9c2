/-
  Plain reckoning: what package asm writes behind a name, by a shape ('shp', 'toldB'), and what it reads of a text, part by part ('rdA'): what is written is what the document writes ('body_shp'), and of the text of an instruction that instruction is read ('rdP_all'). No program in sight.
-/
import Derived.Test.YtkdghgiajifbdaaDoorAq
import Derived.Lib.ItoaNum
import Derived.Lib.ParseIntB
import Derived.Lib.Strings
import Derived.Shelf.GgClosure.StringsTrimFunc
namespace Go.Proofs.YtkdghgiajifbdaaDoor.As
open Go.Lib
set_option linter.unusedVariables false
set_option linter.unusedSimpArgs false

/-- A text as bytes. -/
def bs (L : List Nat) : ByteArray := ⟨(L.map UInt8.ofNat).toArray⟩
theorem bs_list (L : List Nat) : (bs L).data.toList = L.map UInt8.ofNat := by simp [bs]
theorem bs_size (L : List Nat) : (bs L).size = L.length := by rw [size_eq, bs_list]; simp
theorem bs_ext {a b : ByteArray} (h : a.data.toList = b.data.toList) : a = b := by
  obtain ⟨⟨a⟩⟩ := a; obtain ⟨⟨b⟩⟩ := b
  simp at h; rw [h]
theorem bs_drop (L : List Nat) (i : Nat) : (bs L).extract i (bs L).size = bs (L.drop i) := bs_ext (by
  rw [extract_data, bs_list, bs_list, bs_size, ← List.map_drop, List.take_of_length_le (by simp)])
theorem bs_take (L : List Nat) (i : Nat) : (bs L).extract 0 i = bs (L.take i) := bs_ext (by
  rw [extract_data, bs_list, bs_list, List.drop_zero, Nat.sub_zero, ← List.map_take])
/-- The bytes of a text. -/
def lst (s : ByteArray) : List Nat := s.data.toList.map UInt8.toNat
theorem bs_lst (s : ByteArray) : bs (lst s) = s := bs_ext (by
  rw [bs_list]; unfold lst; rw [List.map_map]
  conv => rhs; rw [← List.map_id s.data.toList]
  apply List.map_congr_left; intro x _; simp)
theorem lst_bs {L : List Nat} (h : ∀ c ∈ L, c < 256) : lst (bs L) = L := by
  unfold lst; rw [bs_list, List.map_map]
  conv => rhs; rw [← List.map_id L]
  apply List.map_congr_left
  intro c hc
  have := h c hc
  show (UInt8.ofNat c).toNat = c
  simp; omega
theorem bs_inj {A B : List Nat} (ha : ∀ c ∈ A, c < 256) (hb : ∀ c ∈ B, c < 256) (h : bs A = bs B) : A = B := by rw [← lst_bs ha, ← lst_bs hb, h]
theorem lst_lt (s : ByteArray) : ∀ c ∈ lst s, c < 256 := by
  intro c hc
  obtain ⟨x, _, rfl⟩ := List.mem_map.1 hc
  exact x.toNat_lt

/-! ### A number -/
theorem dec_dg (n : Nat) : decDigits n = (dg n).map UInt8.ofNat := by
  induction n using Nat.strongRecOn with
  | _ n ih =>
    by_cases h : n < 10
    · rw [dg_lo h, decDigits, dif_pos h]; rfl
    · rw [dg_hi h, decDigits, dif_neg h, ih (n / 10) (by omega), List.map_append]; rfl
theorem itoa_num (n : Int) : itoa n = (num n).map UInt8.ofNat := by
  unfold itoa num
  by_cases h : n < 0
  · rw [if_pos h, if_pos h, dec_dg]; rfl
  · rw [if_neg h, if_neg h, dec_dg, show n.toNat = n.natAbs by omega]
def vg (acc : Nat) (l : List Nat) : Nat := l.foldl (fun n d => 10 * n + (d - 48)) acc
theorem vg_le : ∀ (l : List Nat) (acc : Nat), acc ≤ vg acc l
  | [], acc => Nat.le_refl _
  | d :: l, acc => by
    have := vg_le l (10 * acc + (d - 48))
    show acc ≤ vg (10 * acc + (d - 48)) l
    omega
theorem pu_vg {M : Nat} (hM : M < 18446744073709551616) : ∀ (l : List Nat) (acc : Nat), (∀ d ∈ l, IsD d) → vg acc l ≤ M → parseUintM M acc (l.map UInt8.ofNat) = .ok (vg acc l)
  | [], acc, _, _ => rfl
  | d :: l, acc, hd, hv => by
    have h1 := hd d (by simp)
    unfold IsD at h1
    have e : (UInt8.ofNat d).toNat = d := by simp; omega
    have hv' : vg (10 * acc + (d - 48)) l ≤ M := hv
    have h2 := vg_le l (10 * acc + (d - 48))
    have ih := pu_vg hM l (10 * acc + (d - 48)) (fun x hx => hd x (by simp [hx])) hv'
    rw [List.map_cons, parseUintM, if_pos (by rw [e]; exact h1), if_neg (by omega), if_neg (by rw [e]; omega), e, show acc * 10 + (d - 48) = 10 * acc + (d - 48) by omega, ih]
    rfl
theorem pu_dg {n : Nat} (h : n ≤ 4294967295) : parseUintB 32 ((dg n).map UInt8.ofNat) = .ok n := by
  unfold parseUintB
  rw [if_neg (by simp [dg_ne])]
  have e : vg 0 (dg n) = n := vl_dg n
  rw [pu_vg (by decide) (dg n) 0 (dg_isD n) (by rw [e]; exact h), e]
theorem pi_num {n : Int} (h0 : -2147483648 ≤ n) (h1 : n < 2147483648) : parseIntB 32 ((num n).map UInt8.ofNat) = .ok n := by
  have hd := dg_isD n.natAbs
  have hp := pu_dg (n := n.natAbs) (by omega)
  unfold num
  by_cases hn : n < 0
  · rw [if_pos hn, List.map_cons]
    unfold parseIntB
    simp only [show (UInt8.ofNat 45).toNat = 45 from rfl, or_true, if_true, hp]
    rw [if_neg (by simp), if_neg (by omega)]
    simp; omega
  · rw [if_neg hn]
    have hne := dg_ne n.natAbs
    generalize dg n.natAbs = l at *
    match l, hne with
    | x :: t, _ =>
      have hx := hd x (by simp)
      unfold IsD at hx
      have e : (UInt8.ofNat x).toNat = x := by simp; omega
      rw [List.map_cons] at hp ⊢
      unfold parseIntB
      simp only [e]
      rw [if_neg (by omega), hp]
      simp only
      rw [if_neg (by omega), if_neg (by omega), if_neg (by omega)]
      congr 1; omega
/-- What package asm reads of a part. -/
def nmB (s : ByteArray) : Int :=
  match parseIntB 32 (trimPrefix s.data.toList [120]) with
  | .ok v => v
  | .range => intSat 32 (trimPrefix s.data.toList [120])
  | _ => 0
theorem pi_bd {l : List UInt8} {v : Int} (h : parseIntB 32 l = .ok v) : -2147483648 ≤ v ∧ v < 2147483648 := by
  unfold parseIntB at h
  match l with
  | [] => cases h
  | c :: r =>
    simp only at h
    split at h
    · cases h
    · cases h
    · split at h
      · cases h
      · split at h
        · cases h
        · injection h with h
          subst h
          split <;> omega
theorem nmB_bd (s : ByteArray) : -2147483648 ≤ nmB s ∧ nmB s < 2147483648 := by
  unfold nmB
  split
  · rename_i h; exact pi_bd h
  · unfold intSat; split <;> omega
  · omega
theorem num_head (n : Int) : ∃ x t, num n = x :: t ∧ x < 120 := by
  unfold num
  split
  · exact ⟨45, _, rfl, by omega⟩
  · have hne := dg_ne n.natAbs
    have hd := dg_isD n.natAbs
    generalize dg n.natAbs = l at *
    match l, hne with
    | x :: t, _ =>
      have hx := hd x (by simp)
      unfold IsD at hx
      exact ⟨x, t, rfl, by omega⟩
theorem nmB_num {n : Int} (h0 : -2147483648 ≤ n) (h1 : n < 2147483648) : nmB (bs (num n)) = n := by
  have e : trimPrefix (bs (num n)).data.toList [120] = (num n).map UInt8.ofNat := by
    rw [bs_list]
    obtain ⟨x, t, e, hx⟩ := num_head n
    rw [e, List.map_cons]
    unfold trimPrefix hasPrefix
    have : (120 == UInt8.ofNat x) = false := by
      rw [beq_eq_false_iff_ne]
      intro h
      have := congrArg UInt8.toNat h
      simp at this; omega
    simp [List.isPrefixOf, this]
  unfold nmB
  rw [e, pi_num h0 h1]
theorem nmB_rg {n : Int} (h0 : 0 ≤ n) (h1 : n ≤ 31) : nmB (bs (rg n)) = n := by
  have e : trimPrefix (bs (rg n)).data.toList [120] = (num n).map UInt8.ofNat := by
    rw [bs_list]
    unfold rg trimPrefix hasPrefix
    simp [List.isPrefixOf]
  unfold nmB
  rw [e, pi_num (by omega) (by omega)]

/-! ### Parts of a text -/
def btw (c : Nat) : Bool := c == 44 || c == 40 || c == 41
def ixL (p : Nat → Bool) (t : Bool) : List Nat → Nat → Int
  | [], _ => -1
  | c :: r, k => if p c = t then (k : Int) else ixL p t r (k + 1)
theorem ix_eq (p : Nat → Bool) (t : Bool) {L : List Nat} (hL : ∀ c ∈ L, c < 128) : ∀ fuel pos, L.length ≤ pos + fuel → idxFuncFrom p t (bs L) fuel pos = ixL p t (L.drop pos) pos
  | 0, pos, h => by rw [List.drop_eq_nil_of_le (by omega)]; rfl
  | f + 1, pos, h => by
    unfold idxFuncFrom
    by_cases hp : pos < (bs L).size
    · have hp' : pos < L.length := by rwa [bs_size] at hp
      have hc := hL (L[pos]) (List.getElem_mem hp')
      have e : ((bs L)[pos]'hp).toNat = L[pos] := by
        have e0 : (bs L)[pos]'hp = UInt8.ofNat L[pos] := by
          show (bs L).data[pos] = _
          simp only [bs, List.getElem_toArray, List.getElem_map]
        rw [e0, UInt8.toNat_ofNat']; omega
      rw [if_pos hp, decode_ascii (bs L) pos hp (by omega), e, List.drop_eq_getElem_cons hp', ix_eq p t hL f (pos + 1) (by omega)]
      rfl
    · rw [if_neg hp, List.drop_eq_nil_of_le (by rw [bs_size] at hp; omega)]
      rfl
theorem ixL_hit {p : Nat → Bool} {t : Bool} {c : Nat} {r : List Nat} (hc : p c = t) : ∀ (a : List Nat) (k : Nat), (∀ x ∈ a, ¬ p x = t) → ixL p t (a ++ c :: r) k = (k + a.length : Nat)
  | [], k, _ => by simp [ixL, hc]
  | x :: a, k, h => by
    rw [List.cons_append, ixL, if_neg (h x (by simp)), ixL_hit hc a (k + 1) (fun y hy => h y (by simp [hy]))]
    simp; omega
theorem ixL_miss {p : Nat → Bool} {t : Bool} : ∀ (a : List Nat) (k : Nat), (∀ x ∈ a, ¬ p x = t) → ixL p t a k = -1
  | [], k, _ => rfl
  | x :: a, k, h => by rw [ixL, if_neg (h x (by simp)), ixL_miss a (k + 1) (fun y hy => h y (by simp [hy]))]
/-- A part, and what stands behind it. -/
def cutB (s : ByteArray) : ByteArray × ByteArray := if idxFunc btw true s = -1 then (s, ⟨#[]⟩) else (s.extract 0 (idxFunc btw true s).toNat, s.extract (idxFunc btw true s).toNat s.size)
/-- A part stands behind bytes that stand between, and is no such byte itself; behind it stands nothing, or such a byte. -/
structure Tok (a : List Nat) : Prop where
  ne : a ≠ []
  lt : ∀ c ∈ a, c < 128
  nb : ∀ c ∈ a, btw c = false
structure Rst (r : List Nat) : Prop where
  lt : ∀ c ∈ r, c < 128
  hd : ∀ c, r.head? = some c → btw c = true
theorem tok_cut {sp a r : List Nat} (hs : ∀ c ∈ sp, c < 128 ∧ btw c = true) (ha : Tok a) (hr : Rst r) : cutB (trimLeftF btw (bs (sp ++ (a ++ r)))) = (bs a, bs r) := by
  obtain ⟨ne, lt, nb⟩ := ha
  obtain ⟨rl, rh⟩ := hr
  have e1 : trimLeftF btw (bs (sp ++ (a ++ r))) = bs (a ++ r) := by
    have : idxFunc btw false (bs (sp ++ (a ++ r))) = (sp.length : Int) := by
      unfold idxFunc
      rw [ix_eq btw false (by
        intro c hc
        rcases List.mem_append.1 hc with h | h
        · exact (hs c h).1
        · rcases List.mem_append.1 h with h | h
          · exact lt c h
          · exact rl c h) _ 0 (by rw [bs_size]; omega), List.drop_zero]
      match a, ne with
      | x :: a, _ =>
        rw [List.cons_append, ixL_hit (nb x (by simp)) sp 0 (fun y hy => by rw [(hs y hy).2]; decide)]
        simp
    unfold trimLeftF
    rw [this, if_neg (by omega), show (sp.length : Int).toNat = sp.length by omega, bs_drop]
    simp
  rw [e1]
  unfold cutB
  have hl : ∀ c ∈ a ++ r, c < 128 := fun c hc => by
    rcases List.mem_append.1 hc with h | h
    · exact lt c h
    · exact rl c h
  match r, rh with
  | [], _ =>
    have : idxFunc btw true (bs (a ++ [])) = -1 := by
      unfold idxFunc
      rw [ix_eq btw true hl _ 0 (by rw [bs_size]; omega), List.drop_zero, List.append_nil]
      exact ixL_miss a 0 (fun y hy => by rw [nb y hy]; decide)
    rw [if_pos this]
    simp [bs]
  | c :: r, rh =>
    have : idxFunc btw true (bs (a ++ c :: r)) = (a.length : Int) := by
      unfold idxFunc
      rw [ix_eq btw true hl _ 0 (by rw [bs_size]; omega), List.drop_zero]
      rw [ixL_hit (rh c rfl) a 0 (fun y hy => by rw [nb y hy]; decide)]
      simp
    rw [this, if_neg (by omega), show (a.length : Int).toNat = a.length by omega, bs_drop, bs_take]
    simp
theorem tok_num (n : Int) : Tok (num n) := by
  have hd := dg_isD n.natAbs
  have hne := dg_ne n.natAbs
  unfold num
  split
  · refine ⟨by simp, ?_, ?_⟩ <;> (intro c hc; rcases List.mem_cons.1 hc with rfl | h)
    · omega
    · have := hd c h; unfold IsD at this; omega
    · rfl
    · have := hd c h; unfold IsD at this; unfold btw; simp; omega
  · refine ⟨hne, ?_, ?_⟩ <;> intro c h
    · have := hd c h; unfold IsD at this; omega
    · have := hd c h; unfold IsD at this; unfold btw; simp; omega
theorem tok_rg (n : Int) : Tok (rg n) := by
  obtain ⟨_, lt, nb⟩ := tok_num n
  unfold rg
  refine ⟨by simp, ?_, ?_⟩ <;> (intro c hc; rcases List.mem_cons.1 hc with rfl | h)
  · omega
  · exact lt c h
  · rfl
  · exact nb c h

/-! ### By shapes -/
def shp (op : Int) : List Nat :=
  if 1 ≤ op ∧ op ≤ 2 then [100, 44, 117]
  else if op = 3 then [100, 44, 105]
  else if op = 4 ∨ (19 ≤ op ∧ op ≤ 27) ∨ op = 57 then [100, 44, 115, 44, 105]
  else if 5 ≤ op ∧ op ≤ 10 then [115, 44, 116, 44, 105]
  else if 11 ≤ op ∧ op ≤ 15 then [100, 44, 105, 40, 115, 41]
  else if 16 ≤ op ∧ op ≤ 18 then [116, 44, 105, 40, 115, 41]
  else if 28 ≤ op ∧ op ≤ 45 then [100, 44, 115, 44, 116]
  else if op = 46 then [100, 44, 40, 115, 41]
  else if 47 ≤ op ∧ op ≤ 56 then [100, 44, 116, 44, 40, 115, 41]
  else []
/-- A field as text. -/
def toldB (rd a b n : Int) (c : Nat) : List Nat :=
  if c = 100 then rg rd else if c = 115 then rg a else if c = 116 then rg b else if c = 105 then num n else if c = 117 then num (n / 4096) else [c]
def wrB (op rd a b n : Int) : List Nat := (shp op).flatMap (toldB rd a b n)
variable {op : Int}
theorem td_d (rd a b n : Int) : toldB rd a b n 100 = rg rd := rfl
theorem td_s (rd a b n : Int) : toldB rd a b n 115 = rg a := rfl
theorem td_t (rd a b n : Int) : toldB rd a b n 116 = rg b := rfl
theorem td_i (rd a b n : Int) : toldB rd a b n 105 = num n := rfl
theorem td_u (rd a b n : Int) : toldB rd a b n 117 = num (n / 4096) := rfl
theorem td_c (rd a b n : Int) : toldB rd a b n 44 = [44] := rfl
theorem td_o (rd a b n : Int) : toldB rd a b n 40 = [40] := rfl
theorem td_e (rd a b n : Int) : toldB rd a b n 41 = [41] := rfl
theorem shp0 (h : 1 ≤ op ∧ op ≤ 2) : shp op = [100, 44, 117] := by unfold shp; rw [if_pos h]
theorem wr0 (h : 1 ≤ op ∧ op ≤ 2) (rd a b n : Int) : wrB op rd a b n = rg rd ++ 44 :: num (n / 4096) := by unfold wrB; rw [shp0 h]; simp only [List.flatMap_cons, List.flatMap_nil, td_d, td_s, td_t, td_i, td_u, td_c, td_o, td_e, List.append_nil, List.singleton_append, List.cons_append, List.nil_append]
theorem shp1 (h : op = 3) : shp op = [100, 44, 105] := by unfold shp; rw [if_neg (by omega), if_pos h]
theorem wr1 (h : op = 3) (rd a b n : Int) : wrB op rd a b n = rg rd ++ 44 :: num n := by unfold wrB; rw [shp1 h]; simp only [List.flatMap_cons, List.flatMap_nil, td_d, td_s, td_t, td_i, td_u, td_c, td_o, td_e, List.append_nil, List.singleton_append, List.cons_append, List.nil_append]
theorem shp2 (h : F2 op) : shp op = [100, 44, 115, 44, 105] := by unfold F2 at h; unfold shp; rw [if_neg (by omega), if_neg (by omega), if_pos h]
theorem wr2 (h : F2 op) (rd a b n : Int) : wrB op rd a b n = rg rd ++ 44 :: (rg a ++ 44 :: num n) := by unfold wrB; rw [shp2 h]; simp only [List.flatMap_cons, List.flatMap_nil, td_d, td_s, td_t, td_i, td_u, td_c, td_o, td_e, List.append_nil, List.singleton_append, List.cons_append, List.nil_append]
theorem shp3 (h : 5 ≤ op ∧ op ≤ 10) : shp op = [115, 44, 116, 44, 105] := by unfold shp; rw [if_neg (by omega), if_neg (by omega), if_neg (by omega), if_pos h]
theorem wr3 (h : 5 ≤ op ∧ op ≤ 10) (rd a b n : Int) : wrB op rd a b n = rg a ++ 44 :: (rg b ++ 44 :: num n) := by unfold wrB; rw [shp3 h]; simp only [List.flatMap_cons, List.flatMap_nil, td_d, td_s, td_t, td_i, td_u, td_c, td_o, td_e, List.append_nil, List.singleton_append, List.cons_append, List.nil_append]
theorem shp4 (h : 11 ≤ op ∧ op ≤ 15) : shp op = [100, 44, 105, 40, 115, 41] := by unfold shp; rw [if_neg (by omega), if_neg (by omega), if_neg (by omega), if_neg (by omega), if_pos h]
theorem wr4 (h : 11 ≤ op ∧ op ≤ 15) (rd a b n : Int) : wrB op rd a b n = rg rd ++ 44 :: (num n ++ 40 :: (rg a ++ [41])) := by unfold wrB; rw [shp4 h]; simp only [List.flatMap_cons, List.flatMap_nil, td_d, td_s, td_t, td_i, td_u, td_c, td_o, td_e, List.append_nil, List.singleton_append, List.cons_append, List.nil_append]
theorem shp5 (h : 16 ≤ op ∧ op ≤ 18) : shp op = [116, 44, 105, 40, 115, 41] := by unfold shp; rw [if_neg (by omega), if_neg (by omega), if_neg (by omega), if_neg (by omega), if_neg (by omega), if_pos h]
theorem wr5 (h : 16 ≤ op ∧ op ≤ 18) (rd a b n : Int) : wrB op rd a b n = rg b ++ 44 :: (num n ++ 40 :: (rg a ++ [41])) := by unfold wrB; rw [shp5 h]; simp only [List.flatMap_cons, List.flatMap_nil, td_d, td_s, td_t, td_i, td_u, td_c, td_o, td_e, List.append_nil, List.singleton_append, List.cons_append, List.nil_append]
theorem shp6 (h : 28 ≤ op ∧ op ≤ 45) : shp op = [100, 44, 115, 44, 116] := by unfold shp; rw [if_neg (by omega), if_neg (by omega), if_neg (by omega), if_neg (by omega), if_neg (by omega), if_neg (by omega), if_pos h]
theorem wr6 (h : 28 ≤ op ∧ op ≤ 45) (rd a b n : Int) : wrB op rd a b n = rg rd ++ 44 :: (rg a ++ 44 :: rg b) := by unfold wrB; rw [shp6 h]; simp only [List.flatMap_cons, List.flatMap_nil, td_d, td_s, td_t, td_i, td_u, td_c, td_o, td_e, List.append_nil, List.singleton_append, List.cons_append, List.nil_append]
theorem shp7 (h : op = 46) : shp op = [100, 44, 40, 115, 41] := by unfold shp; rw [if_neg (by omega), if_neg (by omega), if_neg (by omega), if_neg (by omega), if_neg (by omega), if_neg (by omega), if_neg (by omega), if_pos h]
theorem wr7 (h : op = 46) (rd a b n : Int) : wrB op rd a b n = rg rd ++ 44 :: 40 :: (rg a ++ [41]) := by unfold wrB; rw [shp7 h]; simp only [List.flatMap_cons, List.flatMap_nil, td_d, td_s, td_t, td_i, td_u, td_c, td_o, td_e, List.append_nil, List.singleton_append, List.cons_append, List.nil_append]
theorem shp8 (h : 47 ≤ op ∧ op ≤ 56) : shp op = [100, 44, 116, 44, 40, 115, 41] := by unfold shp; rw [if_neg (by omega), if_neg (by omega), if_neg (by omega), if_neg (by omega), if_neg (by omega), if_neg (by omega), if_neg (by omega), if_neg (by omega), if_pos h]
theorem wr8 (h : 47 ≤ op ∧ op ≤ 56) (rd a b n : Int) : wrB op rd a b n = rg rd ++ 44 :: (rg b ++ 44 :: 40 :: (rg a ++ [41])) := by unfold wrB; rw [shp8 h]; simp only [List.flatMap_cons, List.flatMap_nil, td_d, td_s, td_t, td_i, td_u, td_c, td_o, td_e, List.append_nil, List.singleton_append, List.cons_append, List.nil_append]
theorem shp9 (h : op < 1 ∨ 58 ≤ op) : shp op = [] := by unfold shp; rw [if_neg (by omega), if_neg (by omega), if_neg (by omega), if_neg (by omega), if_neg (by omega), if_neg (by omega), if_neg (by omega), if_neg (by omega), if_neg (by omega)]
theorem wr9 (h : op < 1 ∨ 58 ≤ op) (rd a b n : Int) : wrB op rd a b n = [] := by unfold wrB; rw [shp9 h]; simp only [List.flatMap_cons, List.flatMap_nil, td_d, td_s, td_t, td_i, td_u, td_c, td_o, td_e, List.append_nil, List.singleton_append, List.cons_append, List.nil_append]
theorem cls (h1 : 1 ≤ op) (h2 : op ≤ 59) : (1 ≤ op ∧ op ≤ 2) ∨ op = 3 ∨ F2 op ∨ (5 ≤ op ∧ op ≤ 10) ∨ (11 ≤ op ∧ op ≤ 15) ∨ (16 ≤ op ∧ op ≤ 18) ∨ (28 ≤ op ∧ op ≤ 45) ∨ op = 46 ∨ (47 ≤ op ∧ op ≤ 56) ∨ (op < 1 ∨ 58 ≤ op) := by unfold F2; omega
theorem body_shp (h1 : 1 ≤ op) (h2 : op ≤ 59) (rd a b n : Int) : bodyR op rd a b (nw op n) = if wrB op rd a b n = [] then [] else 32 :: wrB op rd a b n := by
  unfold bodyR nw
  rcases cls h1 h2 with h | h | h | h | h | h | h | h | h | h
  · rw [wr0 h, if_neg (show ¬ (rg _ ++ _ = []) by simp [rg])]; rw [if_neg (by omega), if_pos (by omega), if_pos (by omega)]
  · rw [wr1 h, if_neg (show ¬ (rg _ ++ _ = []) by simp [rg])]; rw [if_neg (by omega), if_pos (by omega), if_neg (by omega)]
  · rw [wr2 h, if_neg (show ¬ (rg _ ++ _ = []) by simp [rg])]; have h' := h; unfold F2 at h'; rw [if_neg (by omega), if_neg (by omega), if_pos h, if_neg (by omega)]
  · rw [wr3 h, if_neg (show ¬ (rg _ ++ _ = []) by simp [rg])]; have h2 : ¬ F2 op := (by unfold F2; omega); rw [if_neg (by omega), if_neg (by omega), if_neg h2, if_pos (by omega), if_neg (by omega)]
  · rw [wr4 h, if_neg (show ¬ (rg _ ++ _ = []) by simp [rg])]; have h2 : ¬ F2 op := (by unfold F2; omega); rw [if_neg (by omega), if_neg (by omega), if_neg h2, if_neg (by omega), if_pos (by omega), if_neg (by omega)]
  · rw [wr5 h, if_neg (show ¬ (rg _ ++ _ = []) by simp [rg])]; have h2 : ¬ F2 op := (by unfold F2; omega); rw [if_neg (by omega), if_neg (by omega), if_neg h2, if_neg (by omega), if_neg (by omega), if_pos (by omega), if_neg (by omega)]
  · rw [wr6 h, if_neg (show ¬ (rg _ ++ _ = []) by simp [rg])]; have h2 : ¬ F2 op := (by unfold F2; omega); rw [if_neg (by omega), if_neg (by omega), if_neg h2, if_neg (by omega), if_neg (by omega), if_neg (by omega), if_pos (by omega)]
  · rw [wr7 h, if_neg (show ¬ (rg _ ++ _ = []) by simp [rg])]; have h2 : ¬ F2 op := (by unfold F2; omega); rw [if_neg (by omega), if_neg (by omega), if_neg h2, if_neg (by omega), if_neg (by omega), if_neg (by omega), if_neg (by omega), if_pos (by omega)]
  · rw [wr8 h, if_neg (show ¬ (rg _ ++ _ = []) by simp [rg])]; have h2 : ¬ F2 op := (by unfold F2; omega); rw [if_neg (by omega), if_neg (by omega), if_neg h2, if_neg (by omega), if_neg (by omega), if_neg (by omega), if_neg (by omega), if_neg (by omega)]
  · rw [wr9 h, if_pos rfl, if_pos (by omega)]
/-- A field that is set. -/
def stB (f : Fi) (c : Nat) (n : Int) : Fi :=
  if c = 100 then (f.1, n, f.2.2.1, f.2.2.2.1, f.2.2.2.2)
  else if c = 115 then (f.1, f.2.1, n, f.2.2.2.1, f.2.2.2.2)
  else if c = 116 then (f.1, f.2.1, f.2.2.1, n, f.2.2.2.2)
  else if c = 105 then (f.1, f.2.1, f.2.2.1, f.2.2.2.1, n)
  else if c = 117 then (f.1, f.2.1, f.2.2.1, f.2.2.2.1, Go.IntKind.i32.wrap (n * 4096))
  else f
def rdS (x : Fi × ByteArray) (c : Nat) : Fi × ByteArray :=
  if btw c = true then x else (stB x.1 c (nmB (cutB (trimLeftF btw x.2)).1), (cutB (trimLeftF btw x.2)).2)
theorem rdS_btw {x : Fi × ByteArray} {c : Nat} (h : btw c = true) : rdS x c = x := if_pos h
theorem rdS_tok {f : Fi} {c : Nat} {sp a r : List Nat} (h : btw c = false) (hs : ∀ c ∈ sp, c < 128 ∧ btw c = true) (ha : Tok a) (hr : Rst r) : rdS (f, bs (sp ++ (a ++ r))) c = (stB f c (nmB (bs a)), bs r) := by
  unfold rdS
  rw [if_neg (by rw [h]; decide)]
  simp only
  rw [tok_cut hs ha hr]
def rdA (op m : Int) (s : ByteArray) : Fi := ((shp op).foldl rdS ((op, 0, 0, 0, m), s)).1
theorem wrap_in (n : Int) : -2147483648 ≤ Go.IntKind.i32.wrap n ∧ Go.IntKind.i32.wrap n < 2147483648 := by
  rw [Go.IntKind.wrap_i32]; omega
theorem rdS_bd (x : Fi × ByteArray) (c : Nat) (h : x.1.1 = op ∧ -2147483648 ≤ x.1.2.2.2.2 ∧ x.1.2.2.2.2 < 2147483648) : (rdS x c).1.1 = op ∧ -2147483648 ≤ (rdS x c).1.2.2.2.2 ∧ (rdS x c).1.2.2.2.2 < 2147483648 := by
  unfold rdS
  split
  · exact h
  · have := nmB_bd (cutB (trimLeftF btw x.2)).1
    generalize nmB (cutB (trimLeftF btw x.2)).1 = n at *
    have hw := wrap_in (n * 4096)
    unfold stB
    simp only
    repeat' split
    all_goals first | exact h | exact ⟨h.1, this⟩ | exact ⟨h.1, hw⟩
theorem fold_bd {op : Int} : ∀ (l : List Nat) (x : Fi × ByteArray), (x.1.1 = op ∧ -2147483648 ≤ x.1.2.2.2.2 ∧ x.1.2.2.2.2 < 2147483648) → ((l.foldl rdS x).1.1 = op ∧ -2147483648 ≤ (l.foldl rdS x).1.2.2.2.2 ∧ (l.foldl rdS x).1.2.2.2.2 < 2147483648)
  | [], x, h => h
  | c :: l, x, h => fold_bd l (rdS x c) (rdS_bd x c h)
theorem rdA_bd {op m : Int} (h0 : -2147483648 ≤ m) (h1 : m < 2147483648) (s : ByteArray) : (rdA op m s).1 = op ∧ -2147483648 ≤ (rdA op m s).2.2.2.2 ∧ (rdA op m s).2.2.2.2 < 2147483648 :=
  fold_bd (shp op) ((op, 0, 0, 0, m), s) ⟨rfl, h0, h1⟩
theorem rst_nil : Rst [] := ⟨by simp, by simp⟩
theorem rst_cons {c : Nat} {r : List Nat} (h : btw c = true) (hc : c < 128) (hr : ∀ x ∈ r, x < 128) : Rst (c :: r) := ⟨fun x hx => by
  rcases List.mem_cons.1 hx with rfl | hx
  · exact hc
  · exact hr x hx, fun x hx => by simp at hx; subst hx; exact h⟩
theorem all128 {A B : List Nat} (ha : ∀ x ∈ A, x < 128) (hb : ∀ x ∈ B, x < 128) : ∀ x ∈ A ++ B, x < 128 := fun x hx => (List.mem_append.1 hx).elim (ha x) (hb x)
theorem cons128 {c : Nat} {B : List Nat} (hc : c < 128) (hb : ∀ x ∈ B, x < 128) : ∀ x ∈ c :: B, x < 128 := fun x hx => by
  rcases List.mem_cons.1 hx with rfl | hx
  · exact hc
  · exact hb x hx
theorem nil128 : ∀ x ∈ ([] : List Nat), x < 128 := by simp
theorem num128 (n : Int) : ∀ x ∈ num n, x < 128 := (tok_num n).lt
theorem rg128 (n : Int) : ∀ x ∈ rg n, x < 128 := (tok_rg n).lt
theorem sp0 : ∀ c ∈ ([] : List Nat), c < 128 ∧ btw c = true := by simp
theorem sp1 : ∀ c ∈ [44], c < 128 ∧ btw c = true := by decide
theorem sp2 : ∀ c ∈ [44, 40], c < 128 ∧ btw c = true := by decide
theorem sp3 : ∀ c ∈ [40], c < 128 ∧ btw c = true := by decide
theorem up12 {n : Int} (h0 : -2147483648 ≤ n) (h1 : n < 2147483648) (h : n % 4096 = 0) : Go.IntKind.i32.wrap (n / 4096 * 4096) = n := by rw [Go.IntKind.wrap_i32]; omega
theorem b44 (x : Fi × ByteArray) : rdS x 44 = x := rdS_btw (by decide)
theorem b40 (x : Fi × ByteArray) : rdS x 40 = x := rdS_btw (by decide)
theorem b41 (x : Fi × ByteArray) : rdS x 41 = x := rdS_btw (by decide)
theorem t0 {f : Fi} {c : Nat} {a r : List Nat} (h : btw c = false) (ha : Tok a) (hr : Rst r) : rdS (f, bs (a ++ r)) c = (stB f c (nmB (bs a)), bs r) := by
  have := rdS_tok (f := f) (sp := []) (a := a) (r := r) h sp0 ha hr
  simpa only [List.cons_append, List.nil_append] using this
theorem t1 {f : Fi} {c : Nat} {a r : List Nat} (h : btw c = false) (ha : Tok a) (hr : Rst r) : rdS (f, bs (44 :: (a ++ r))) c = (stB f c (nmB (bs a)), bs r) := by
  have := rdS_tok (f := f) (sp := [44]) (a := a) (r := r) h sp1 ha hr
  simpa only [List.cons_append, List.nil_append] using this
theorem t2 {f : Fi} {c : Nat} {a r : List Nat} (h : btw c = false) (ha : Tok a) (hr : Rst r) : rdS (f, bs (44 :: 40 :: (a ++ r))) c = (stB f c (nmB (bs a)), bs r) := by
  have := rdS_tok (f := f) (sp := [44, 40]) (a := a) (r := r) h sp2 ha hr
  simpa only [List.cons_append, List.nil_append] using this
theorem t3 {f : Fi} {c : Nat} {a r : List Nat} (h : btw c = false) (ha : Tok a) (hr : Rst r) : rdS (f, bs (40 :: (a ++ r))) c = (stB f c (nmB (bs a)), bs r) := by
  have := rdS_tok (f := f) (sp := [40]) (a := a) (r := r) h sp3 ha hr
  simpa only [List.cons_append, List.nil_append] using this
theorem t1e {f : Fi} {c : Nat} {a : List Nat} (h : btw c = false) (ha : Tok a) : rdS (f, bs (44 :: a)) c = (stB f c (nmB (bs a)), bs []) := by
  have := t1 (f := f) h ha rst_nil
  rwa [List.append_nil] at this
/-- Of what is written of an instruction that instruction is read. -/
theorem rdA_all {op rd a b n : Int} (h : Re.IsP op rd a b n) (n0 : -2147483648 ≤ n) (n1 : n < 2147483648) : rdA op (if 46 ≤ op ∧ op ≤ 56 then n else 0) (bs (wrB op rd a b n)) = (op, rd, a, b, n) := by
  obtain ⟨⟨o1, o2, d0, d1, a0, a1, b0, b1⟩, hf⟩ := h
  have ed := nmB_rg d0 d1
  have ea := nmB_rg a0 a1
  have eb := nmB_rg b0 b1
  have en := nmB_num n0 n1
  have eu := nmB_num (n := n / 4096) (by omega) (by omega)
  have td := tok_rg rd
  have ta := tok_rg a
  have tb := tok_rg b
  have tn := tok_num n
  have tu := tok_num (n / 4096)
  have r41 : Rst [41] := rst_cons rfl (by omega) nil128
  have hz : op ≤ 2 → n % 4096 = 0 := fun h => Int.emod_eq_zero_of_dvd (Int.dvd_of_tmod_eq_zero (by rcases hf with h | h | h | h | h | h | h | h | h | h | h | h <;> first | exact h.2.2.2.2 | (exfalso; omega)))
  unfold rdA
  rcases cls o1 o2 with h | h | h | h | h | h | h | h | h | h
  · rw [wr0 h, shp0 h, if_neg (by omega)]
    simp only [List.foldl_cons, List.foldl_nil, b44, b40, b41]
    rw [t0 rfl td (rst_cons rfl (by omega) tu.lt), t1e rfl tu, ed, eu]
    obtain ⟨rfl, rfl⟩ : a = 0 ∧ b = 0 := (by omega); simp [stB, up12 n0 n1 (hz (by omega))]
  · rw [wr1 h, shp1 h, if_neg (by omega)]
    simp only [List.foldl_cons, List.foldl_nil, b44, b40, b41]
    rw [t0 rfl td (rst_cons rfl (by omega) tn.lt), t1e rfl tn, ed, en]
    obtain ⟨rfl, rfl⟩ : a = 0 ∧ b = 0 := (by omega); simp [stB]
  · have h' := h; unfold F2 at h'; rw [wr2 h, shp2 h, if_neg (by omega)]
    simp only [List.foldl_cons, List.foldl_nil, b44, b40, b41]
    rw [t0 rfl td (rst_cons rfl (by omega) (all128 ta.lt (cons128 (by omega) tn.lt))), t1 rfl ta (rst_cons rfl (by omega) tn.lt), t1e rfl tn, ed, ea, en]
    obtain rfl : b = 0 := (by omega); simp [stB]
  · rw [wr3 h, shp3 h, if_neg (by omega)]
    simp only [List.foldl_cons, List.foldl_nil, b44, b40, b41]
    rw [t0 rfl ta (rst_cons rfl (by omega) (all128 tb.lt (cons128 (by omega) tn.lt))), t1 rfl tb (rst_cons rfl (by omega) tn.lt), t1e rfl tn, ea, eb, en]
    obtain rfl : rd = 0 := (by omega); simp [stB]
  · rw [wr4 h, shp4 h, if_neg (by omega)]
    simp only [List.foldl_cons, List.foldl_nil, b44, b40, b41]
    rw [t0 rfl td (rst_cons rfl (by omega) (all128 tn.lt (cons128 (by omega) (all128 ta.lt r41.lt)))), t1 rfl tn (rst_cons rfl (by omega) (all128 ta.lt r41.lt)), t3 rfl ta r41, ed, en, ea]
    obtain rfl : b = 0 := (by omega); simp [stB]
  · rw [wr5 h, shp5 h, if_neg (by omega)]
    simp only [List.foldl_cons, List.foldl_nil, b44, b40, b41]
    rw [t0 rfl tb (rst_cons rfl (by omega) (all128 tn.lt (cons128 (by omega) (all128 ta.lt r41.lt)))), t1 rfl tn (rst_cons rfl (by omega) (all128 ta.lt r41.lt)), t3 rfl ta r41, eb, en, ea]
    obtain rfl : rd = 0 := (by omega); simp [stB]
  · rw [wr6 h, shp6 h, if_neg (by omega)]
    simp only [List.foldl_cons, List.foldl_nil, b44, b40, b41]
    rw [t0 rfl td (rst_cons rfl (by omega) (all128 ta.lt (cons128 (by omega) tb.lt))), t1 rfl ta (rst_cons rfl (by omega) tb.lt), t1e rfl tb, ed, ea, eb]
    obtain rfl : n = 0 := (by omega); simp [stB]
  · rw [wr7 h, shp7 h, if_pos (by omega)]
    simp only [List.foldl_cons, List.foldl_nil, b44, b40, b41]
    rw [t0 rfl td (rst_cons rfl (by omega) (cons128 (by omega) (all128 ta.lt r41.lt))), t2 rfl ta r41, ed, ea]
    obtain rfl : b = 0 := (by omega); simp [stB]
  · rw [wr8 h, shp8 h, if_pos (by omega)]
    simp only [List.foldl_cons, List.foldl_nil, b44, b40, b41]
    rw [t0 rfl td (rst_cons rfl (by omega) (all128 tb.lt (cons128 (by omega) (cons128 (by omega) (all128 ta.lt r41.lt))))), t1 rfl tb (rst_cons rfl (by omega) (cons128 (by omega) (all128 ta.lt r41.lt))), t2 rfl ta r41, ed, eb, ea]
    simp [stB]
  · rw [wr9 h, shp9 h, if_neg (by omega)]
    obtain ⟨rfl, rfl, rfl, rfl⟩ : rd = 0 ∧ a = 0 ∧ b = 0 ∧ n = 0 := by omega
    rfl

/-! ### The whole text -/
/-- What is read of a text. -/
def nmd (h : List Nat) : Int × Int := (findB h).getD (0, 0)
def rdP (L : List Nat) : Fi := rdA (nmd (hdB L)).1 (nmd (hdB L)).2 (bs (rsB L).tail)
theorem nmd_bd (h : List Nat) : 0 ≤ (nmd h).1 ∧ (nmd h).1 ≤ 59 ∧ 0 ≤ (nmd h).2 ∧ (nmd h).2 ≤ 3 := by
  unfold nmd
  match e : findB h with
  | none => simp
  | some (op, m) =>
    have := (find_sound e).2
    simp; omega
theorem rdP_bd (L : List Nat) : -2147483648 ≤ (rdP L).2.2.2.2 ∧ (rdP L).2.2.2.2 < 2147483648 :=
  have := nmd_bd (hdB L)
  (rdA_bd (by omega) (by omega) _).2
/-- Of an instruction's text that instruction is read. -/
theorem rdP_all {L : List Nat} {f : Fi} (h : parseB L = some f) : rdP L = f := by
  obtain ⟨op, rd, a, b, n⟩ := f
  obtain ⟨⟨⟨n0, n1⟩, hp⟩, rfl⟩ := parse_iff.1 h
  have hp' := hp
  obtain ⟨⟨o1, o2, _⟩, hf⟩ := hp'
  have ha : 46 ≤ op → op ≤ 56 → 0 ≤ n ∧ n ≤ 3 := fun h1 h2 => by
    rcases hf with h | h | h | h | h | h | h | h | h | h | h | h <;> omega
  obtain ⟨e1, e2⟩ := name_fin o1 o2 ha
  unfold rdP textB
  obtain ⟨e3, e4⟩ := hd_all e2 rd a b (nw op n)
  unfold nmd
  rw [e3, e1, e4, body_shp o1 o2]
  simp only [Option.getD_some]
  have := rdA_all hp n0 n1
  by_cases he : wrB op rd a b n = []
  · rw [if_pos he]; rw [he] at this; exact this
  · rw [if_neg he]; exact this
end Go.Proofs.YtkdghgiajifbdaaDoor.As
