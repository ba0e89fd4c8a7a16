/- For every tag the exact law of NearTags returns true, and the tag reads as before; the listed variables of strconv and math/bits are tied to the program's text. No other condition. -/
import Derived.Test.YtjdmagackoddaacDoorCards
import Derived.Test.YtjdmagackoddaacDoorTie
import Derived.Test.YtjdmagackoddaacDoorLaidErr
import Derived.Test.YtjdmagackoddaacDoorNearImpl
import Derived.Test.YtjdmagackoddaacDoorTagRows
import Derived.Test.YtjdmagackoddaacDoorToTag
import Derived.OpenShut
import Derived.ChangeOld
import Derived.Lib.SmallJoins
import Derived.LaidMore
import Derived.Stop.LaidErr
import Derived.Stop.Joined
import Derived.SevenTiedAt
namespace Go.Proofs.YtjdmagackoddaacDoor.fnExactNearTags
open Go.ChangeShapes Go.WideShapes Go.ChangeAt Go.RowKit
set_option linter.unusedVariables false

def tagInts (M : Nat) : List Int := [((tri M).1 : Int), ((tri M).2.1 : Int), ((tri M).2.2 : Int)]
theorem ints_cells (l : List Nat) : cellsN l = (l.flatMap tagInts).map (Value.int .i64) := by
  induction l with
  | nil => rfl
  | cons t ts ih =>
    rw [List.flatMap_cons, List.map_append, ← ih]
    show cellsN (t :: ts) = _
    unfold cellsN
    rw [List.flatMap_cons]
    rfl
theorem near_len (a b c : Int) : (nearOf a b c).length ≤ 1000 := by
  unfold nearOf
  split
  · have := near_le (tnum a b c).toNat 100 (Nat.le_refl _); omega
  · simp
/-- Both NearTags leave the same. -/
theorem near_same (a b c : Int) : ∃ (n : Nat) (xs : List Int), n ≤ 1000 ∧ ∀ B w e w', NearPost (nearOf a b c) B w e w' → ∃ v, e = .returned v ∧ w'.ownsRow B 23 3 v n (xs.map (Value.int .i64)) ∧ Below B w w' :=
  ⟨_, (nearOf a b c).flatMap tagInts, near_len a b c, fun B w e w' ⟨v, h1, h2, h3⟩ => ⟨v, h1, by rw [← ints_cells]; exact h2, h3⟩⟩
theorem row_cells {w : World} {B n : Nat} {v : Value} {xs : List Int} (h : w.ownsRow B 23 3 v n (xs.map (Value.int .i64))) :
    ∃ p cap g, v = .slice p n cap ∧ (0 < n → p = some ⟨g, 0, none⟩ ∧ g < w.heap.size) ∧ ∀ j, j < n * 3 → w.cell? ⟨g, j, none⟩ = some (.int .i64 (xs.getD j 0)) := by
  have hl := h.1
  rw [List.length_map] at hl
  by_cases hn : n = 0
  · subst hn
    rcases h.2 with ⟨rfl, _⟩ | ⟨g, cap, cur, rfl, -⟩
    · exact ⟨_, _, 0, rfl, fun h => absurd h (by omega), fun j hj => absurd hj (by omega)⟩
    · exact ⟨_, _, 0, rfl, fun h => absurd h (by omega), fun j hj => absurd hj (by omega)⟩
  · obtain ⟨g, cap, rfl⟩ : ∃ g cap, v = .slice (some ⟨g, 0, none⟩) n cap := by
      rcases h.2 with ⟨_, h0⟩ | ⟨g, cap, cur, rfl, -⟩
      · exact absurd h0 hn
      · exact ⟨_, _, rfl⟩
    refine ⟨_, _, g, rfl, fun _ => ⟨rfl, (h.lt g rfl).2⟩, fun j hj => ?_⟩
    rw [h.cellAt j hj, List.getElem?_map, List.getElem?_eq_getElem (by omega), List.getD_eq_getElem?_getD, List.getElem?_eq_getElem (by omega)]
    rfl

set_option maxRecDepth 100000 in
set_option maxHeartbeats 2000000 in
theorem walk (b0 b1 b2 : Int) (w : World) (x0 : (Lit.int .i64 b0).wf = true) (x1 : (Lit.int .i64 b1).wf = true) (x2 : (Lit.int .i64 b2).wf = true) (htab : Lib.TabIs Tryd.prog w "internal/strconv.uint64pow10" .u64 Lib.pow10Tab) (hr : ErrIs w "strconv.ErrRange") (hs : ErrIs w "strconv.ErrSyntax") :
    Calls Tryd.prog 6 #[.agg #[.int .i64 b0, .int .i64 b1, .int .i64 b2]] w fun e w' => e = .returned (.bool true) ∧ Below w.heap.size w w' := by
  clear x0 x1 x2
  have hT := Lib.hid (Lib.tabBelow_of_tabIs htab)
  have HR := Lib.hid hr
  have HS := Lib.hid hs
  clear htab hr hs
  obtain ⟨n, xs, hn, hcs⟩ := near_same b0 b1 b2
  have HC := Lib.hid hcs
  clear hcs
  go_enter Tryd.func6, Tryd.ntmps6
  go_wp2_with fail
  have hnew : (w.alloc (.cells #[.int .i64 b0, .int .i64 b1, .int .i64 b2] 33)).cell? ⟨w.heap.size, 0, none⟩ = some (.int .i64 b0) ∧ (w.alloc (.cells #[.int .i64 b0, .int .i64 b1, .int .i64 b2] 33)).cell? ⟨w.heap.size, 1, none⟩ = some (.int .i64 b1) ∧ (w.alloc (.cells #[.int .i64 b0, .int .i64 b1, .int .i64 b2] 33)).cell? ⟨w.heap.size, 2, none⟩ = some (.int .i64 b2) := ⟨newCell _ _ _ _ _ rfl, newCell _ _ _ _ _ rfl, newCell _ _ _ _ _ rfl⟩
  obtain ⟨w0, hw0⟩ : ∃ w0, w0 = w.alloc (.cells #[.int .i64 b0, .int .i64 b1, .int .i64 b2] 33) := ⟨_, rfl⟩
  have hs0 : w0.heap.size = w.heap.size + 1 := by rw [hw0]; simp
  have B0 : Below w.heap.size w w0 := by rw [hw0]; exact (Below.refl _ _).alloc (Nat.le_refl _) _
  rw [← hw0] at hnew
  rw [← hw0]
  have HBT : Hid (∀ X, Below (w.heap.size + 1) w0 X → X.cell? ⟨w.heap.size, 0, none⟩ = some (.int .i64 b0) ∧ X.cell? ⟨w.heap.size, 1, none⟩ = some (.int .i64 b1) ∧ X.cell? ⟨w.heap.size, 2, none⟩ = some (.int .i64 b2)) := fun X hX =>
    ⟨(hX.cell (p := ⟨w.heap.size, 0, none⟩) (Nat.lt_succ_self _)).trans hnew.1, (hX.cell (p := ⟨w.heap.size, 1, none⟩) (Nat.lt_succ_self _)).trans hnew.2.1, (hX.cell (p := ⟨w.heap.size, 2, none⟩) (Nat.lt_succ_self _)).trans hnew.2.2⟩
  have HS0 := Lib.hid hs0
  clear hw0 hnew hs0
  obtain ⟨t0, t1, t2⟩ := HBT.out w0 (Below.refl _ _)
  -- the model
  go_wp2_with fail
  refine (toTag_any _ _ _ _).mono ?_
  rintro e wA ⟨rfl, bA⟩
  have hA : Below (w.heap.size + 1) w0 wA := bA.mono (by rw [HS0.out]; exact Nat.le_refl _)
  have hzA := hA.size
  rw [HS0.out] at hzA
  clear t0 t1 t2 bA
  go_wp2_with fail
  refine (snear_any _ _ _ _).mono ?_
  intro e w1 hpost
  obtain ⟨v0, rfl, hown0, b1'⟩ := HC.out _ _ _ _ hpost
  clear hpost
  obtain ⟨p0, c0, g0, rfl, hp0, hc0⟩ := row_cells hown0
  have h1 : Below (w.heap.size + 1) w0 w1 := hA.trans (b1'.mono hzA)
  have hz1 := h1.size
  rw [HS0.out] at hz1
  have P0 := Lib.hid hp0
  have C0 := Lib.hid hc0
  clear hp0 hc0 hown0 b1'
  obtain ⟨t0, t1, t2⟩ := HBT.out w1 h1
  -- the program
  go_wp2_with fail
  refine (toTag_any _ _ _ _).mono ?_
  rintro e wB ⟨rfl, bB⟩
  have b1B := Lib.hid bB
  have hB : Below (w.heap.size + 1) w0 wB := h1.trans (bB.mono hz1)
  have hzB := hB.size
  rw [HS0.out] at hzB
  have bwB : Below w.heap.size w wB := B0.trans (hB.mono (by omega))
  have hcon := Lib.hid (inear_any b0 b1 b2 wB (hT.out _ bwB) (HR.out.on gRng bwB) (HS.out.on gSyn bwB))
  clear t0 t1 t2 bB bwB
  go_wp2_with fail
  refine hcon.out.mono ?_
  clear hcon
  intro e w2 hpost
  obtain ⟨v1, rfl, hown1, b2'⟩ := HC.out _ _ _ _ hpost
  clear hpost
  have hown1' := hown1
  obtain ⟨p1, c1, g1, rfl, hp1, hc1⟩ := row_cells hown1
  have B2 : Hid (Below w1.heap.size w1 w2) := b1B.out.trans (b2'.mono b1B.out.size)
  have heq := Lib.hid (eqTagS_any n (by omega) xs p1 p0 c1 c0 g1 g0 w2 hp1 (fun h => ⟨(P0.out h).1, Nat.lt_of_lt_of_le (P0.out h).2 B2.out.size⟩) hc1 (fun j hj => (B2.out.cell (p := ⟨g0, j, none⟩) (P0.out (by omega)).2).trans (C0.out j hj)))
  have H1 := Lib.hid (own_base hown1' (show w1.heap.size ≤ wB.heap.size from b1B.out.size))
  clear hp1 hc1 hown1 hown1' b2'
  go_wp2_with fail
  refine heq.out.mono ?_
  clear heq
  rintro e w3 ⟨rfl, b3⟩
  have b13 : Below w1.heap.size w1 w3 := B2.out.trans (b3.mono B2.out.size)
  have B13 := Lib.hid b13
  have hmk := Lib.hid (markTagS_any n (by omega) (.slice p1 n c1) _ w1.heap.size w3 (own_below H1.out b3))
  clear b3 b13
  obtain ⟨m, hm⟩ : ∃ m : Nat, m = 1 + n * 3 := ⟨_, rfl⟩
  have hm9 : m ≤ 4000 := by omega
  have HM := Lib.hid hm
  clear hm
  go_wp2_with fail
  refine hmk.out.mono ?_
  clear hmk
  rw [← HM.out]
  rintro e w4 ⟨rfl, h34, b4, ys, hown4, hys⟩
  have b14 : Below w1.heap.size w1 w4 := B13.out.trans b4
  obtain ⟨g1', hp1', hc1'⟩ : ∃ g, (0 < n → p1 = some ⟨g, 0, none⟩ ∧ g < w4.heap.size) ∧ ∀ j, j < n * 3 → w4.cell? ⟨g, j, none⟩ = some (.int .i64 ((1 + j : Nat) : Int)) := by
    by_cases hn0 : n = 0
    · exact ⟨0, fun h => absurd h (by omega), fun j hj => absurd hj (by omega)⟩
    · rcases hown4.2 with ⟨_, h0⟩ | ⟨g, cap, cur, hv, -⟩
      · exact absurd h0 hn0
      · injection hv with h1 h2 h3
        subst h1
        refine ⟨g, fun _ => ⟨rfl, (hown4.lt g rfl).2⟩, fun j hj => ?_⟩
        rw [hown4.cellAt j hj]
        exact hys j hj
  have B14 := Lib.hid b14
  have P1 := Lib.hid hp1'
  have C1 := Lib.hid hc1'
  clear hown4 hys b4 b14 hp1' hc1'
  go_wp2_with fail
  refine (heldTagS_any n (by omega) p1 c1 g1' w4 P1.out C1.out).mono ?_
  rw [← HM.out]
  rintro e w5 ⟨rfl, b5⟩
  have B5 := Lib.hid b5
  have b15 : Below w1.heap.size w1 w5 := B14.out.trans (b5.mono B14.out.size)
  have B15 := Lib.hid b15
  have h5 : Below (w.heap.size + 1) w0 w5 := h1.trans (b15.mono hz1)
  have hz5 := h5.size
  rw [HS0.out] at hz5
  obtain ⟨t0, t1, t2⟩ := HBT.out w5 h5
  clear b5 b15
  -- the program once more
  go_wp2_with fail
  refine (toTag_any _ _ _ _).mono ?_
  rintro e wC ⟨rfl, bC⟩
  have b5C := Lib.hid bC
  have hC : Below (w.heap.size + 1) w0 wC := h5.trans (bC.mono hz5)
  have bwC : Below w.heap.size w wC := B0.trans (hC.mono (by omega))
  have hcon := Lib.hid (inear_any b0 b1 b2 wC (hT.out _ bwC) (HR.out.on gRng bwC) (HS.out.on gSyn bwC))
  clear t0 t1 t2 bC bwC
  go_wp2_with fail
  refine hcon.out.mono ?_
  clear hcon
  intro e w6 hpost
  obtain ⟨v2, rfl, hown2, b6'⟩ := HC.out _ _ _ _ hpost
  clear hpost
  obtain ⟨p2, c2, g2, rfl, hp2, hc2⟩ := row_cells hown2
  have b6 : Below w5.heap.size w5 w6 := b5C.out.trans (b6'.mono b5C.out.size)
  have b16 : Below w1.heap.size w1 w6 := B15.out.trans (b6.mono B15.out.size)
  have heq := Lib.hid (eqTagS_any n (by omega) xs p2 p0 c2 c0 g2 g0 w6 hp2 (fun h => ⟨(P0.out h).1, Nat.lt_of_lt_of_le (P0.out h).2 b16.size⟩) hc2 (fun j hj => (b16.cell (p := ⟨g0, j, none⟩) (P0.out (by omega)).2).trans (C0.out j hj)))
  have B6 := Lib.hid b6
  have B16 := Lib.hid b16
  clear hp2 hc2 hown2 b6 b16 b6'
  go_wp2_with fail
  refine heq.out.mono ?_
  clear heq
  rintro e w7 ⟨rfl, b7⟩
  have b47 : Below w4.heap.size w4 w7 := (B5.out.trans (B6.out.mono B5.out.size)).trans (b7.mono (Nat.le_trans B5.out.size B6.out.size))
  have b17 : Below w1.heap.size w1 w7 := B16.out.trans (b7.mono B16.out.size)
  have hhd := Lib.hid (heldTagS_any n (by omega) p1 c1 g1' w7 (fun h => ⟨(P1.out h).1, Nat.lt_of_lt_of_le (P1.out h).2 b47.size⟩) (fun j hj => (b47.cell (p := ⟨g1', j, none⟩) (P1.out (by omega)).2).trans (C1.out j hj)))
  have B17 := Lib.hid b17
  clear b7 b47 b17
  go_wp2_with fail
  refine hhd.out.mono ?_
  clear hhd
  rw [← HM.out]
  rintro e w8 ⟨rfl, b8⟩
  have b18 : Below w1.heap.size w1 w8 := B17.out.trans (b8.mono B17.out.size)
  have h8 : Below (w.heap.size + 1) w0 w8 := h1.trans (b18.mono hz1)
  go_wp2_with fail
  go_ret
  exact ⟨rfl, B0.trans (h8.mono (by omega))⟩

/-! The row's step. -/
theorem own : ownKnob Tryd.prog.godebug = none := by kernel_rfl
theorem laidOut : laidOutB Tryd.prog = true := by kernel_rfl
theorem door_met (os : Os) (args : Array Value) : laidMetH Tryd.prog Rows.fnExactNearTagsRow.laid ((World.doorLaid Tryd.prog 400 os).forCall (fun _ _ => 0) ⟨#[], args, []⟩).memory :=
  laidMetH_of_parts3 (fuel := 8) (laidMet_of_run' 8 (by kernel_rfl) (by kernel_rfl)) (by kernel_rfl) (by kernel_rfl)
set_option maxRecDepth 100000 in
theorem lifted (os : Os) (started : os.Started) (H : Type) (enc : TypeId × Value → H) :
    ReturnsInHanded {} Tryd.checked os 6 .any (fun w args => (Rows.fnExactNearTagsSpec.pre enc Tryd.prog Tryd.f6 [] false w args ∧ laidMetH Tryd.prog Rows.fnExactNearTagsRow.laid w) ∧ sizedMet enc Tryd.prog Tryd.f6 (OpenSpec.ofChange Rows.fnExactNearTagsSpec) false w args) (Rows.fnExactNearTagsSpec.post enc Tryd.prog Tryd.f6 false true false false) := by
  refine returnsInHanded_of_change_and (C := Tryd.checked) (X := fun w _ => laidMetH Tryd.prog Rows.fnExactNearTagsRow.laid w) (fun _ _ _ hh h => h.of_heap hh) own started (by kernel_rfl) Tryd.func6
    (ChangeSpec.witness_shaped (enc := enc) (C := Tryd.checked) (os := os) (X := fun w _ => laidMetH Tryd.prog Rows.fnExactNearTagsRow.laid w) false (World.doorLaid Tryd.prog 400 os) #[.agg #[.int .i64 0, .int .i64 0, .int .i64 0]] 8 rfl (World.shaped_of_RefB (by kernel_rfl) (by kernel_rfl)) (by kernel_rfl) (by kernel_rfl) (by kernel_rfl) (door_met os _)) ?_
  intro W base args ds gs before hval0 hW hcnd hsz hLH _
  have hval : ∀ (j : Nat) t v, Tryd.f6.params[j]? = some t → args[j]? = some v → Value.okWide Tryd.prog W .any base t v := hval0
  have hW' := hW
  obtain ⟨p, q, hA0, hV, rfl, hfz, hnd⟩ := hW
  have hA : DataW.TrodAll enc Tryd.prog W 0 (fun _ => true) true Tryd.f6.params.toList args.toList ds p := hA0
  rw [Tryd.params6] at hA hval
  obtain ⟨v0, vs0, d0, ds0, p0, q0, hargs, rfl, rfl, h0, r0⟩ := trodAll_cons hA
  obtain ⟨rfl, rfl, rfl⟩ := trodAll_nil r0
  obtain rfl : args = #[v0] := by cases args; simp_all
  obtain ⟨rfl, rfl⟩ := trodVars_none hV
  have k0 := h0
  have lt0 : ∀ x ∈ p0, x.block < W.heap.size := by obtain ⟨m, hm⟩ := k0; exact DataW.trod_lt m _ _ _ hm
  obtain ⟨c0, c1, c2, y0, y1, y2, m, rfl, -, -, hy0, hy1, hy2⟩ := Joins.open_agg3 Tryd.underlying33 (by kernel_rfl) (show Tryd.prog.cellsOf 33 = 3 by kernel_rfl) (hval 0 33 v0 rfl rfl) h0
  obtain ⟨b0, e0, -, x0⟩ := DataW.trod_int Tryd.underlying3 hy0
  obtain ⟨b1, e1, -, x1⟩ := DataW.trod_int Tryd.underlying3 hy1
  obtain ⟨b2, e2, -, x2⟩ := DataW.trod_int Tryd.underlying3 hy2
  simp only [List.cons.injEq, and_true] at e0 e1 e2
  subst e0 e1 e2
  clear hA0 hval0
  have hL : laidMet Tryd.prog Rows.fnExactNearTagsRow.laid W := by rw [MakeChecks.laidMetH_plain _ _ _ (by kernel_rfl)] at hLH; exact hLH
  refine (walk b0 b1 b2 W x0 x1 x2 (tab_of_laid (laidMet.tail (laidMet.tail hL))) (rng_of_laid (laidMet.tail (laidMet.tail (laidMet.tail hL)))) (syn_of_laid (laidMet.tail (laidMet.tail (laidMet.tail (laidMet.tail hL)))))).mono fun e W' ⟨he, bel⟩ => ?_
  subst he
  exact ⟨_, rfl, _, _, _, [], _, [], hW', trodAll_mk1 (shut_bool Tryd.underlying4 _), (trodAll_cons_mk (Below.trod laidOut (by kernel_rfl) (of_decide_eq_true (by kernel_rfl)) k0 bel lt0) trodAll_mk0), rfl, bel.frame _, fun h => by cases h⟩

theorem over : Rows.FnExactNearTagsSaid :=
  OpenClaim.holds_of_wide 6 Tryd.f6 rfl rfl rfl rfl rfl rfl rfl ⟨rfl, rfl, rfl, rfl, rfl⟩ rfl rfl rfl rfl rfl (by kernel_rfl) Tryd.func6 (by kernel_rfl)
    (of_decide_eq_true (by kernel_rfl)) (by unfold Func.isWrapper; first | (rw [if_pos (by decide +kernel)]; kernel_rfl) | (rw [if_neg (by decide +kernel)]; exact ⟨rfl, rfl⟩))
    (fun os started H enc _ => lifted os started H enc)

/-- The statement. -/
theorem proved : Rows.FnExactNearTagsCardSaid :=
  Claim7.holds_tied_plain_at .later [] [.data, .data, .data, .sentinel, .sentinel] true (true, "7c7e3b9801f49a7a1b499c67f89ba68894245240762cb19e490ba1d22b5537e3") true
    over (fun _ h => by cases h) (by kernel_rfl) (fun _ h => by cases h) fnExactNearTags_row_tie rfl ⟨rfl, rfl⟩ (by kernel_rfl) rfl
    (fun f fn hf hfn => by
      obtain rfl : f = 6 := Option.some.inj ((show Tryd.prog.funcNamed "loop.example/g03319/laws.FnExactNearTags" = some 6 by kernel_rfl).symm.trans hf) |>.symm
      obtain rfl : fn = Tryd.f6 := (Option.some.inj (Tryd.func6.symm.trans hfn)).symm
      exact ⟨by kernel_rfl, fun j t ht => by
        rw [Tryd.params6] at ht
        have hm : t ∈ [33] := by simpa using Array.mem_of_getElem? ht
        have hall : ([33].all fun u => !Tryd.prog.wantsStandIn u) = true := by kernel_rfl
        exact (show Tryd.prog.wantsStandIn t = false by simpa using List.all_eq_true.1 hall t hm)⟩)
    (by kernel_rfl)
#print axioms proved
end Go.Proofs.YtjdmagackoddaacDoor.fnExactNearTags
