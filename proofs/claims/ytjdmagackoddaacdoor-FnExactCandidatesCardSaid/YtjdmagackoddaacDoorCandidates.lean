/- For every string the exact law of Candidates returns true; the listed variables of strconv and math/bits are tied to the program's text. No other condition. -/
import Derived.Test.YtjdmagackoddaacDoorCards
import Derived.Test.YtjdmagackoddaacDoorTie
import Derived.Test.YtjdmagackoddaacDoorLaidErr
import Derived.Test.YtjdmagackoddaacDoorCandImpl
import Derived.Test.YtjdmagackoddaacDoorTagRows
import Derived.OpenShut
import Derived.ChangeOld
import Derived.LaidMore
import Derived.Stop.Joined
import Derived.SevenTiedAt
namespace Go.Proofs.YtjdmagackoddaacDoor.fnExactCandidates
open Go.ChangeShapes Go.WideShapes Go.ChangeAt Go.RowKit
open Go.ChangeMaps (open_string shut_string)
set_option linter.unusedVariables false

theorem cands_len {l : List UInt8} (h : frm l) : (cands l).length ≤ 1000 := by
  have h1 := List.length_filterMap_le tagOf (fills (placesTo l 12) l)
  have h2 := fills_len (placesTo l 12) l
  have h3 : 10 ^ (placesTo l 12).length ≤ 10 ^ 3 := Nat.pow_le_pow_right (by decide) h.2.2.2
  have h4 : (cands l).length ≤ 10 ^ 3 := Nat.le_trans (Nat.le_trans h1 h2) h3
  simpa using h4
def tagInts (t : Nat × Nat × Nat) : List Int := [(t.1 : Int), (t.2.1 : Int), (t.2.2 : Int)]
theorem tagInts_cells (ts : List (Nat × Nat × Nat)) : ts.flatMap tagCell = (ts.flatMap tagInts).map (Value.int .i64) := by
  induction ts with
  | nil => rfl
  | cons t ts ih => rw [List.flatMap_cons, List.flatMap_cons, List.map_append, ih]; rfl
/-- Both Candidates leave the same. -/
theorem cand_same (l : List UInt8) : ∃ (n : Nat) (xs : List Int) (ok : Bool), n ≤ 1000 ∧ ∀ B w e w', CandPost l B w e w' → ∃ v, e = .returned (.tuple #[v, .bool ok]) ∧ w'.ownsRow B 23 3 v n (xs.map (Value.int .i64)) ∧ Below B w w' := by
  by_cases hf : frm l
  · refine ⟨(cands l).length, (cands l).flatMap tagInts, true, cands_len hf, ?_⟩
    rintro B w e w' ⟨v, n, xs, ok, rfl, hown, hb, ⟨_, rfl, rfl, rfl⟩ | ⟨h, _⟩⟩
    · exact ⟨v, rfl, by rw [← tagInts_cells]; exact hown, hb⟩
    · exact absurd hf h
  · refine ⟨0, [], false, by omega, ?_⟩
    rintro B w e w' ⟨v, n, xs, ok, rfl, hown, hb, ⟨h, _⟩ | ⟨_, rfl, rfl, rfl⟩⟩
    · exact absurd h hf
    · exact ⟨v, rfl, hown, hb⟩
theorem row_cells {w : World} {B n : Nat} {v : Value} {xs : List Int} (h : w.ownsRow B 23 3 v n (xs.map (Value.int .i64))) :
    ∃ p cap g, v = .slice p n cap ∧ (0 < n → p = some ⟨g, 0, none⟩ ∧ g < w.heap.size) ∧ ∀ j, j < n * 3 → w.cell? ⟨g, j, none⟩ = some (.int .i64 (xs.getD j 0)) := by
  have hl := h.1
  rw [List.length_map] at hl
  by_cases hn : n = 0
  · subst hn
    rcases h.2 with ⟨rfl, _⟩ | ⟨g, cap, cur, rfl, -⟩
    · exact ⟨_, _, 0, rfl, fun h => absurd h (by omega), fun j hj => absurd hj (by omega)⟩
    · exact ⟨_, _, 0, rfl, fun h => absurd h (by omega), fun j hj => absurd hj (by omega)⟩
  · obtain ⟨g, cap, rfl⟩ : ∃ g cap, v = .slice (some ⟨g, 0, none⟩) n cap := by
      rcases h.2 with ⟨_, h0⟩ | ⟨g, cap, cur, rfl, -⟩
      · exact absurd h0 hn
      · exact ⟨_, _, rfl⟩
    refine ⟨_, _, g, rfl, fun _ => ⟨rfl, (h.lt g rfl).2⟩, fun j hj => ?_⟩
    rw [h.cellAt j hj, List.getElem?_map, List.getElem?_eq_getElem (by omega), List.getD_eq_getElem?_getD, List.getElem?_eq_getElem (by omega)]
    rfl

set_option maxRecDepth 100000 in
set_option maxHeartbeats 2000000 in
theorem walk (s : ByteArray) (w : World) (w0 : s.size ≤ maxLen) (htab : Lib.TabIs Tryd.prog w "internal/strconv.uint64pow10" .u64 Lib.pow10Tab) (hr : ErrIs w "strconv.ErrRange") (hs : ErrIs w "strconv.ErrSyntax") :
    Calls Tryd.prog 4 #[.string s] w fun e w' => e = .returned (.bool true) ∧ Below w.heap.size w w' := by
  by_cases hbig : 1048576 < s.size
  · clear htab hr hs
    unfold maxLen at w0
    go_enter Tryd.func4, Tryd.ntmps4
    go_wp2
    go_ret
    exact ⟨rfl, Below.refl _ _⟩
  · have hsz : s.size ≤ 1048576 := by omega
    clear hbig w0
    have hT := Lib.hid (Lib.tabBelow_of_tabIs htab)
    have HR := Lib.hid hr
    have HS := Lib.hid hs
    clear htab hr hs
    obtain ⟨n, xs, ok, hn, hcs⟩ := cand_same s.data.toList
    have HC := Lib.hid hcs
    clear hcs
    go_enter Tryd.func4, Tryd.ntmps4
    go_wp2_with fail
    refine (scand_any s hsz _).mono ?_
    intro e w1 hpost
    obtain ⟨v0, rfl, hown0, b1⟩ := HC.out _ _ _ _ hpost
    clear hpost
    obtain ⟨p0, c0, g0, rfl, hp0, hc0⟩ := row_cells hown0
    clear hown0
    have P0 := Lib.hid hp0
    have C0 := Lib.hid hc0
    have B1 := Lib.hid b1
    have hcon := Lib.hid (icand_any s hsz w1 (hT.out _ b1) (HR.out.on gRng b1) (HS.out.on gSyn b1))
    clear hp0 hc0 b1
    go_wp2_with fail
    refine hcon.out.mono ?_
    clear hcon
    intro e w2 hpost
    obtain ⟨v1, rfl, hown1, b2⟩ := HC.out _ _ _ _ hpost
    clear hpost
    have hown1' := hown1
    obtain ⟨p1, c1, g1, rfl, hp1, hc1⟩ := row_cells hown1
    have b02 : Below w.heap.size w w2 := B1.out.trans (b2.mono B1.out.size)
    have heq := Lib.hid (eqTagS_any n (by omega) xs p1 p0 c1 c0 g1 g0 w2 hp1 (fun h => ⟨(P0.out h).1, Nat.lt_of_lt_of_le (P0.out h).2 b2.size⟩) hc1 (fun j hj => (b2.cell (p := ⟨g0, j, none⟩) (P0.out (by omega)).2).trans (C0.out j hj)))
    have H1 := Lib.hid hown1'
    have B2 := Lib.hid b2
    have B02 := Lib.hid b02
    clear hp1 hc1 hown1 hown1' b2 b02
    go_wp2_with fail
    refine heq.out.mono ?_
    clear heq
    rintro e w3 ⟨rfl, b3⟩
    have B3 := Lib.hid b3
    have b13 : Below w1.heap.size w1 w3 := B2.out.trans (b3.mono B2.out.size)
    have B13 := Lib.hid b13
    have hmk := Lib.hid (markTagS_any n (by omega) (.slice p1 n c1) _ w1.heap.size w3 (own_below H1.out b3))
    clear b3 b13
    obtain ⟨m, hm⟩ : ∃ m : Nat, m = 1 + n * 3 := ⟨_, rfl⟩
    have hm9 : m ≤ 4000 := by omega
    have HM := Lib.hid hm
    clear hm
    cases ok
    all_goals
      go_wp2_with fail
      refine hmk.out.mono ?_
      clear hmk
      rw [← HM.out]
      rintro e w4 ⟨rfl, h34, b4, ys, hown4, hys⟩
      have b14 : Below w1.heap.size w1 w4 := B13.out.trans b4
      obtain ⟨g1', hp1', hc1'⟩ : ∃ g, (0 < n → p1 = some ⟨g, 0, none⟩ ∧ g < w4.heap.size) ∧ ∀ j, j < n * 3 → w4.cell? ⟨g, j, none⟩ = some (.int .i64 ((1 + j : Nat) : Int)) := by
        by_cases hn0 : n = 0
        · exact ⟨0, fun h => absurd h (by omega), fun j hj => absurd hj (by omega)⟩
        · rcases hown4.2 with ⟨_, h0⟩ | ⟨g, cap, cur, hv, -⟩
          · exact absurd h0 hn0
          · injection hv with h1 h2 h3
            subst h1
            refine ⟨g, fun _ => ⟨rfl, (hown4.lt g rfl).2⟩, fun j hj => ?_⟩
            rw [hown4.cellAt j hj]
            exact hys j hj
      have B14 := Lib.hid b14
      have P1 := Lib.hid hp1'
      have C1 := Lib.hid hc1'
      clear hown4 hys b4 b14 hp1' hc1'
      go_wp2_with fail
      refine (heldTagS_any n (by omega) p1 c1 g1' w4 P1.out C1.out).mono ?_
      rw [← HM.out]
      rintro e w5 ⟨rfl, b5⟩
      have B5 := Lib.hid b5
      have b15 : Below w1.heap.size w1 w5 := B14.out.trans (b5.mono B14.out.size)
      have b05 : Below w.heap.size w w5 := B1.out.trans (b15.mono B1.out.size)
      have hcon := Lib.hid (icand_any s hsz w5 (hT.out _ b05) (HR.out.on gRng b05) (HS.out.on gSyn b05))
      have B15 := Lib.hid b15
      clear b5 b15 b05
      go_wp2_with fail
      refine hcon.out.mono ?_
      clear hcon
      intro e w6 hpost
      obtain ⟨v2, rfl, hown2, b6⟩ := HC.out _ _ _ _ hpost
      clear hpost
      obtain ⟨p2, c2, g2, rfl, hp2, hc2⟩ := row_cells hown2
      have b16 : Below w1.heap.size w1 w6 := B15.out.trans (b6.mono B15.out.size)
      have heq := Lib.hid (eqTagS_any n (by omega) xs p2 p0 c2 c0 g2 g0 w6 hp2 (fun h => ⟨(P0.out h).1, Nat.lt_of_lt_of_le (P0.out h).2 b16.size⟩) hc2 (fun j hj => (b16.cell (p := ⟨g0, j, none⟩) (P0.out (by omega)).2).trans (C0.out j hj)))
      have B6 := Lib.hid b6
      have B16 := Lib.hid b16
      clear hp2 hc2 hown2 b6 b16
      go_wp2_with fail
      refine heq.out.mono ?_
      clear heq
      rintro e w7 ⟨rfl, b7⟩
      have b47 : Below w4.heap.size w4 w7 := (B5.out.trans (B6.out.mono B5.out.size)).trans (b7.mono (Nat.le_trans B5.out.size B6.out.size))
      have b17 : Below w1.heap.size w1 w7 := B16.out.trans (b7.mono B16.out.size)
      have hhd := Lib.hid (heldTagS_any n (by omega) p1 c1 g1' w7 (fun h => ⟨(P1.out h).1, Nat.lt_of_lt_of_le (P1.out h).2 b47.size⟩) (fun j hj => (b47.cell (p := ⟨g1', j, none⟩) (P1.out (by omega)).2).trans (C1.out j hj)))
      have B17 := Lib.hid b17
      clear b7 b47 b17
      go_wp2_with fail
      refine hhd.out.mono ?_
      clear hhd
      rw [← HM.out]
      rintro e w8 ⟨rfl, b8⟩
      have b18 : Below w1.heap.size w1 w8 := B17.out.trans (b8.mono B17.out.size)
      go_wp2_with fail
      go_ret
      exact ⟨rfl, B1.out.trans (b18.mono B1.out.size)⟩

/-! The row's step. -/
theorem own : ownKnob Tryd.prog.godebug = none := by kernel_rfl
theorem laidOut : laidOutB Tryd.prog = true := by kernel_rfl
theorem door_met (os : Os) (args : Array Value) : laidMetH Tryd.prog Rows.fnExactCandidatesRow.laid ((World.doorLaid Tryd.prog 400 os).forCall (fun _ _ => 0) ⟨#[], args, []⟩).memory :=
  laidMetH_of_parts3 (fuel := 8) (laidMet_of_run' 8 (by kernel_rfl) (by kernel_rfl)) (by kernel_rfl) (by kernel_rfl)
set_option maxRecDepth 100000 in
theorem lifted (os : Os) (started : os.Started) (H : Type) (enc : TypeId × Value → H) :
    ReturnsInHanded {} Tryd.checked os 4 .any (fun w args => (Rows.fnExactCandidatesSpec.pre enc Tryd.prog Tryd.f4 [] false w args ∧ laidMetH Tryd.prog Rows.fnExactCandidatesRow.laid w) ∧ sizedMet enc Tryd.prog Tryd.f4 (OpenSpec.ofChange Rows.fnExactCandidatesSpec) false w args) (Rows.fnExactCandidatesSpec.post enc Tryd.prog Tryd.f4 false true false false) := by
  refine returnsInHanded_of_change_and (C := Tryd.checked) (X := fun w _ => laidMetH Tryd.prog Rows.fnExactCandidatesRow.laid w) (fun _ _ _ hh h => h.of_heap hh) own started (by kernel_rfl) Tryd.func4
    (ChangeSpec.witness_shaped (enc := enc) (C := Tryd.checked) (os := os) (X := fun w _ => laidMetH Tryd.prog Rows.fnExactCandidatesRow.laid w) false (World.doorLaid Tryd.prog 400 os) #[.string ByteArray.empty] 8 rfl (World.shaped_of_RefB (by kernel_rfl) (by kernel_rfl)) (by kernel_rfl) (by kernel_rfl) (by kernel_rfl) (door_met os _)) ?_
  intro W base args ds gs before hval0 hW hcnd hsz hLH _
  have hval : ∀ (j : Nat) t v, Tryd.f4.params[j]? = some t → args[j]? = some v → Value.okWide Tryd.prog W .any base t v := hval0
  have hW' := hW
  obtain ⟨p, q, hA0, hV, rfl, hfz, hnd⟩ := hW
  have hA : DataW.TrodAll enc Tryd.prog W 0 (fun _ => true) true Tryd.f4.params.toList args.toList ds p := hA0
  rw [Tryd.params4] at hA hval
  obtain ⟨v0, vs0, d0, ds0, p0, q0, hargs, rfl, rfl, h0, r0⟩ := trodAll_cons hA
  obtain ⟨rfl, rfl, rfl⟩ := trodAll_nil r0
  obtain rfl : args = #[v0] := by cases args; simp_all
  obtain ⟨rfl, rfl⟩ := trodVars_none hV
  have k0 := h0
  have lt0 : ∀ x ∈ p0, x.block < W.heap.size := by obtain ⟨m, hm⟩ := k0; exact DataW.trod_lt m _ _ _ hm
  obtain ⟨a0, rfl, -, -, w0⟩ := open_string Tryd.underlying9 (hval 0 9 v0 rfl rfl) h0
  clear hA0 hval0
  have hL : laidMet Tryd.prog Rows.fnExactCandidatesRow.laid W := by rw [MakeChecks.laidMetH_plain _ _ _ (by kernel_rfl)] at hLH; exact hLH
  refine (walk a0 W w0 (tab_of_laid (laidMet.tail (laidMet.tail hL))) (rng_of_laid (laidMet.tail (laidMet.tail (laidMet.tail hL)))) (syn_of_laid (laidMet.tail (laidMet.tail (laidMet.tail (laidMet.tail hL)))))).mono fun e W' ⟨he, bel⟩ => ?_
  subst he
  exact ⟨_, rfl, _, _, _, [], _, [], hW', trodAll_mk1 (shut_bool Tryd.underlying4 _), (trodAll_cons_mk (Below.trod laidOut (by kernel_rfl) (of_decide_eq_true (by kernel_rfl)) k0 bel lt0) trodAll_mk0), rfl, bel.frame _, fun h => by cases h⟩

theorem over : Rows.FnExactCandidatesSaid :=
  OpenClaim.holds_of_wide 4 Tryd.f4 rfl rfl rfl rfl rfl rfl rfl ⟨rfl, rfl, rfl, rfl, rfl⟩ rfl rfl rfl rfl rfl (by kernel_rfl) Tryd.func4 (by kernel_rfl)
    (of_decide_eq_true (by kernel_rfl)) (by unfold Func.isWrapper; first | (rw [if_pos (by decide +kernel)]; kernel_rfl) | (rw [if_neg (by decide +kernel)]; exact ⟨rfl, rfl⟩))
    (fun os started H enc _ => lifted os started H enc)

/-- The statement. -/
theorem proved : Rows.FnExactCandidatesCardSaid :=
  Claim7.holds_tied_plain_at .later [] [.data, .data, .data, .sentinel, .sentinel] true (true, "7c7e3b9801f49a7a1b499c67f89ba68894245240762cb19e490ba1d22b5537e3") true
    over (fun _ h => by cases h) (by kernel_rfl) (fun _ h => by cases h) fnExactCandidates_row_tie rfl ⟨rfl, rfl⟩ (by kernel_rfl) rfl
    (fun f fn hf hfn => by
      obtain rfl : f = 4 := Option.some.inj ((show Tryd.prog.funcNamed "loop.example/g03319/laws.FnExactCandidates" = some 4 by kernel_rfl).symm.trans hf) |>.symm
      obtain rfl : fn = Tryd.f4 := (Option.some.inj (Tryd.func4.symm.trans hfn)).symm
      exact ⟨by kernel_rfl, fun j t ht => by
        rw [Tryd.params4] at ht
        have hm : t ∈ [9] := by simpa using Array.mem_of_getElem? ht
        have hall : ([9].all fun u => !Tryd.prog.wantsStandIn u) = true := by kernel_rfl
        exact (show Tryd.prog.wantsStandIn t = false by simpa using List.all_eq_true.1 hall t hm)⟩)
    (by kernel_rfl)
#print axioms proved
end Go.Proofs.YtjdmagackoddaacDoor.fnExactCandidates
