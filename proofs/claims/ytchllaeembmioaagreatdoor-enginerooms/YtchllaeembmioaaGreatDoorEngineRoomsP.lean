/-
  What is proved: for every machine, script and two rooms: the room is not to be seen in what is shown, and with any it is what goes word by word; the statement's card, tied to the program's own tables. Conditions: none beyond the card's own.
-/
import Derived.Test.YtchllaeembmioaaGreatDoorCards
import Derived.Test.YtchllaeembmioaaGreatDoorTie
import Derived.Test.YtchllaeembmioaaGreatDoorR38
import Derived.Test.YtchllaeembmioaaGreatDoorR39
import Derived.ProofKit
import Derived.SizedLaws
import Derived.LaidMore
import Derived.OpenShut
import Derived.Stop.Joined
import Derived.SevenTiedAt
set_option linter.unusedVariables false
set_option linter.unusedSimpArgs false
set_option maxHeartbeats 8000000
set_option maxRecDepth 100000
namespace Go.Proofs.YtchllaeembmioaaGreatDoor.engineRooms
open Go.ChangeShapes Go.WideShapes Go.ChangeAt Go.RowKit Mm Hh Hc Mc En

theorem walk {v : Value} {ma ha pa : Option Addr} {mn mc hn hc pn pc : Nat} {m : List UInt8} {hs : List Hv} {ps : List (Int × Int)} {W : World} (T : Tall W.heap.size W) (G : Mg W v ma mn mc ha hn hc m hs) (P : Ps W pa pn ps) (hp : pn ≤ 8796093022208) (ra rb : Int) :
    Calls Tryz.prog 5 #[v, .slice pa pn pc, .int .i64 ra, .int .i64 rb] W fun e w' => e = .returned (.bool true) ∧ Gr W w' := by
  rw [G.eq]
  have b3 : pn ≤ 140737488351232 := by omega
  by_cases hy : wrong m hs ps = 0
  · obtain ⟨_, b2, b4, _, _, _⟩ := wrong_ok hy
    have hl := G.harts.len
    have HFew := (few_nums hy G.harts.ok).1
    have HFO : Hid ((play ⟨hs, m, [], 0⟩ (nums ps)).out.length ≤ 1000000) := by have := HFew.1; have := HFew.2; have := (wrong_ok hy).2.2.2.2.1; unfold Hid; omega
    have R3 : MrAny W ma ha pa mn mc hn hc pn pc 0 hn mn (play ⟨hs, m, [], 0⟩ (nums ps)) := fun V GV => (Run_yes mc hc pc mn (T.tt.grow GV) (G.mem.of GV) G.cap (G.harts.of GV) (P.of GV) hy).mono fun e w' ⟨v, h1, h2, h3⟩ => ⟨v, h1, h2.w, h3⟩
    have yes : ∀ r : Int, 0 ≤ r ∧ r ≤ 64 → ErAny W ma ha pa mn mc hn hc pn pc r 0 hn mn (play ⟨hs, m, [], 0⟩ (nums ps)) := fun r hr => (run_yes mc hc pc mn r T G.mem G.cap G.harts P hy hr.1 hr.2).any
    have rng : ∀ r : Int, ¬ (0 ≤ r ∧ r ≤ 64) → ErAny W ma ha pa mn mc hn hc pn pc r 3 0 0 ⟨[], [], [], 0⟩ := fun r hr => (run_rng mc hc pc mn r G.mem G.cap G.harts P hy (room_of hr)).any
    by_cases h1 : 0 ≤ ra ∧ ra ≤ 64
    · by_cases h2 : 0 ≤ rb ∧ rb ≤ 64
      · exact er_yes mc hc pc mn ra rb P b3 HFO (by omega) (by omega) (yes ra h1) (yes rb h2) R3
      · exact er_ob mc hc pc mn ra rb P b3 (yes ra h1) (rng rb h2) R3
    · by_cases h2 : 0 ≤ rb ∧ rb ≤ 64
      · exact er_bo mc hc pc mn ra rb P b3 (rng ra h1) (yes rb h2) R3
      · exact er_bb mc hc pc mn ra rb P b3 (rng ra h1) (rng rb h2) R3
  · have R3 : MrAny W ma ha pa mn mc hn hc pn pc (wrong m hs ps) 0 0 ⟨[], [], [], 0⟩ := fun V GV => (Run_no mc hc pc mn G.mem.len (G.harts.of GV) (P.of GV) G.b1 G.b2 b3 hy).mono fun e w' ⟨h1, h2⟩ => ⟨_, h1, machineRuns.zeros _, h2⟩
    exact er_no mc hc pc mn ra rb P b3 hy (run_no mc hc pc mn ra G.mem.len G.harts P G.b1 G.b2 b3 hy).any (run_no mc hc pc mn rb G.mem.len G.harts P G.b1 G.b2 b3 hy).any R3

theorem lifted (os : Os) (started : os.Started) (H : Type) (enc : TypeId × Value → H) :
    ReturnsInHanded {} Tryz.checked os 5 .any (fun w args => (Rows.engineRoomsSpec.pre enc Tryz.prog Tryz.f5 [] false w args ∧ laidMetH Tryz.prog laidE w) ∧ sizedMet enc Tryz.prog Tryz.f5 (OpenSpec.ofChange Rows.engineRoomsSpec) false w args)
      (Rows.engineRoomsSpec.post enc Tryz.prog Tryz.f5 false true false false) := by
  refine returnsInHanded_of_change_and (C := Tryz.checked) (X := fun w _ => laidMetH Tryz.prog laidE w) (fun _ _ _ hh h => h.of_heap hh) own started (by kernel_rfl) Tryz.func5
    (ChangeSpec.witness_shaped (enc := enc) (C := Tryz.checked) (os := os) (X := fun w _ => laidMetH Tryz.prog laidE w) false (World.doorLaid Tryz.prog 400 os) #[.agg #[.slice none 0 0, .slice none 0 0], .slice none 0 0, .int .i64 0, .int .i64 0] 8 rfl (World.shaped_of_RefB (by kernel_rfl) (by kernel_rfl)) (by kernel_rfl) (by kernel_rfl) (by kernel_rfl) (doorE os _)) ?_
  intro W base args ds gs before hval0 hW _ hsz0 hL _
  have hsz : (DataW.weightsEach Tryz.prog (Tryz.f5.params.toList ++ Rows.engineRoomsSpec.plain.varTypes Tryz.prog) (ds ++ gs)).all (· ≤ reachBytes) = true := hsz0
  clear hsz0
  have hval : ∀ (j : Nat) t v, Tryz.f5.params[j]? = some t → args[j]? = some v → Value.okWide Tryz.prog W .any base t v := hval0
  have hW' := hW
  obtain ⟨p, q, hA0, hV, rfl, hfz, hnd⟩ := hW
  have hA : DataW.TrodAll enc Tryz.prog W 0 (fun _ => true) true Tryz.f5.params.toList args.toList ds p := hA0
  rw [Tryz.params5] at hA hval hsz
  obtain ⟨v0, vs0, d0, ds0, p0, q0, hargs, rfl, rfl, h0, r0⟩ := trodAll_cons hA
  obtain ⟨v1, vs1, d1, ds1, p1, q1, rfl, rfl, rfl, h1, r1⟩ := trodAll_cons r0
  obtain ⟨v2, vs2, d2, ds2, p2, q2, rfl, rfl, rfl, h2, r2⟩ := trodAll_cons r1
  obtain ⟨v3, vs3, d3, ds3, p3, q3, rfl, rfl, rfl, h3, r3⟩ := trodAll_cons r2
  obtain ⟨rfl, rfl, rfl⟩ := trodAll_nil r3
  obtain rfl : args = #[v0, v1, v2, v3] := by cases args; simp_all
  obtain ⟨rfl, rfl⟩ := trodVars_none hV
  obtain ⟨a2, rfl, rfl, rfl, w2⟩ := open_int Tryz.underlying3 (hval 2 3 v2 rfl rfl) h2
  obtain ⟨a3, rfl, rfl, rfl, w3⟩ := open_int Tryz.underlying3 (hval 3 3 v3 rfl rfl) h3
  obtain ⟨ma, mn, mc, ha, hn, hc, m, hs, Gm⟩ := open_machine (hval 0 25 v0 rfl rfl) h0 hsz rfl rfl
  obtain ⟨pa, pn, pc, ps, rfl, Pp, _, hpc, hpm, hpn, _⟩ := open_script (hval 1 26 v1 rfl rfl) h1 hsz 1 rfl rfl
  clear hA0 hval0
  simp only [List.append_nil] at hW'
  have hlt0 : ∀ x ∈ p0, x.block < W.heap.size := fun x hx => by
    have := hW'.lt x (by simp [hx])
    simpa using this
  have hlt1 : ∀ x ∈ p1, x.block < W.heap.size := fun x hx => by
    have := hW'.lt x (by simp [hx])
    simpa using this
  refine (walk (tall_of_laid hL) Gm Pp hpn a2 a3).mono fun e W' ⟨he, hg⟩ => ?_
  subst he
  refine ⟨_, rfl, _, _, _, [], _, [], hW', (trodAll_cons_mk (shut_bool Tryz.underlying4 _) trodAll_mk0), (trodAll_cons_mk (Below.trod laidOut (by kernel_rfl) (of_decide_eq_true (by kernel_rfl)) h0 hg hlt0) (trodAll_cons_mk (Below.trod laidOut (by kernel_rfl) (of_decide_eq_true (by kernel_rfl)) h1 hg hlt1) (trodAll_cons_mk (shut_int Tryz.underlying3 w2) (trodAll_cons_mk (shut_int Tryz.underlying3 w3) trodAll_mk0)))), rfl, Below.frame hg _, fun h => by cases h⟩

theorem over : Rows.EngineRoomsSaid :=
  OpenClaim.holds_of_wide 5 Tryz.f5 rfl rfl rfl rfl rfl rfl rfl ⟨rfl, rfl, rfl, rfl, rfl⟩ rfl rfl rfl rfl rfl (by kernel_rfl) Tryz.func5 (by kernel_rfl)
    (of_decide_eq_true (by kernel_rfl)) (by unfold Func.isWrapper; first | (rw [if_pos (by decide +kernel)]; kernel_rfl) | (rw [if_neg (by decide +kernel)]; exact ⟨rfl, rfl⟩))
    (fun os started H enc _ => lifted os started H enc)

theorem proved : Rows.EngineRoomsCardSaid :=
  Claim7.holds_tied_plain_at .later [] [.data, .data, .data, .data, .data, .data] true Rows.engineRoomsCard.stood.harness Rows.engineRoomsCard.stood.looks
    over (fun _ h => by cases h) (by kernel_rfl) (fun _ h => by cases h) engineRooms_row_tie rfl ⟨rfl, rfl⟩ (by kernel_rfl) rfl
    (fun f fn hf hfn => by
      obtain rfl : f = 5 := Option.some.inj ((show Tryz.prog.funcNamed "ferrybridge/ferrybridgekeep.EngineRooms" = some 5 by kernel_rfl).symm.trans hf) |>.symm
      obtain rfl : fn = Tryz.f5 := (Option.some.inj (Tryz.func5.symm.trans hfn)).symm
      exact ⟨by kernel_rfl, fun j t ht => by
        rw [Tryz.params5] at ht
        have hm : t ∈ [25, 26, 3, 3] := by simpa using Array.mem_of_getElem? ht
        have hall : ([25, 26, 3, 3].all fun u => !Tryz.prog.wantsStandIn u) = true := by kernel_rfl
        exact (show Tryz.prog.wantsStandIn t = false by simpa using List.all_eq_true.1 hall t hm)⟩)
    (by kernel_rfl)
#print axioms proved
end Go.Proofs.YtchllaeembmioaaGreatDoor.engineRooms
