/- For every string the exact law of SplitFields returns true. No condition. -/
import Derived.Test.YtjdmagackoddaabRows
import Derived.Test.YtjdmagackoddaabFldImpl
import Derived.Test.YtjdmagackoddaabStrRows
import Derived.ProofKit
import Derived.OpenShut
import Derived.ChangeOld
namespace Go.Proofs.Ytjdmagackoddaab.fnExactSplitFields
open Go.ChangeShapes Go.WideShapes Go.ChangeAt Go.RowKit
open Go.ChangeMaps (open_string shut_string)
set_option linter.unusedVariables false

/-- Both SplitFields leave the same. -/
theorem fld_same (s : ByteArray) : ∃ (n : Nat) (xs : List ByteArray) (ok : Bool), n ≤ 1000 ∧ ∀ B w e w', FldPost s 9 B w e w' → ∃ v, e = .returned (.tuple #[v, .bool ok]) ∧ w'.ownsRow B 9 1 v n (xs.map Value.string) ∧ Below B w w' := by
  by_cases hf : fgood s
  · have hx : strsOf s (flds s.data.toList s.size) = ((flds s.data.toList s.size).map fun p => s.extract p.1 p.2).map Value.string := by unfold strsOf; rw [List.map_map]; rfl
    refine ⟨(flds s.data.toList s.size).length, (flds s.data.toList s.size).map fun p => s.extract p.1 p.2, true, by have := hf.2.2; omega, ?_⟩
    rintro B w e w' ⟨v, n, xs, ok, rfl, hown, hb, ⟨_, rfl, rfl, rfl⟩ | ⟨h, _⟩⟩
    · exact ⟨v, rfl, by rw [← hx]; exact hown, hb⟩
    · exact absurd hf h
  · refine ⟨0, [], false, by omega, ?_⟩
    rintro B w e w' ⟨v, n, xs, ok, rfl, hown, hb, ⟨h, _⟩ | ⟨_, rfl, rfl, rfl⟩⟩
    · exact absurd h hf
    · exact ⟨v, rfl, hown, hb⟩
theorem row_cells {w : World} {B n : Nat} {v : Value} {xs : List ByteArray} (h : w.ownsRow B 9 1 v n (xs.map Value.string)) :
    ∃ p cap g, v = .slice p n cap ∧ (0 < n → p = some ⟨g, 0, none⟩ ∧ g < w.heap.size) ∧ ∀ j, j < n → w.cell? ⟨g, j, none⟩ = some (.string (xs.getD j ByteArray.empty)) := by
  have hl := h.1
  rw [List.length_map] at hl
  by_cases hn : n = 0
  · subst hn
    rcases h.2 with ⟨rfl, _⟩ | ⟨g, cap, cur, rfl, -⟩
    · exact ⟨_, _, 0, rfl, fun h => absurd h (by omega), fun j hj => absurd hj (by omega)⟩
    · exact ⟨_, _, 0, rfl, fun h => absurd h (by omega), fun j hj => absurd hj (by omega)⟩
  · obtain ⟨g, cap, rfl⟩ : ∃ g cap, v = .slice (some ⟨g, 0, none⟩) n cap := by
      rcases h.2 with ⟨_, h0⟩ | ⟨g, cap, cur, rfl, -⟩
      · exact absurd h0 hn
      · exact ⟨_, _, rfl⟩
    refine ⟨_, _, g, rfl, fun _ => ⟨rfl, (h.lt g rfl).2⟩, fun j hj => ?_⟩
    rw [h.cellAt j (by omega), List.getElem?_map, List.getElem?_eq_getElem (by omega), List.getD_eq_getElem?_getD, List.getElem?_eq_getElem (by omega)]
    rfl

set_option maxRecDepth 100000 in
set_option maxHeartbeats 2000000 in
theorem walk (s : ByteArray) (w : World) (w0 : s.size ≤ maxLen) :
    Calls Try.prog 3 #[.string s] w fun e w' => e = .returned (.bool true) ∧ Below w.heap.size w w' := by
  by_cases hbig : 1048576 < s.size
  · unfold maxLen at w0
    go_enter Try.func3, Try.ntmps3
    go_wp2
    go_ret
    exact ⟨rfl, Below.refl _ _⟩
  · have hsz : s.size ≤ 1048576 := by omega
    clear hbig w0
    obtain ⟨n, xs, ok, hn, hcs⟩ := fld_same s
    have HC := Lib.hid hcs
    clear hcs
    go_enter Try.func3, Try.ntmps3
    go_wp2_with fail
    refine (sfld_any s hsz _).mono ?_
    intro e w1 hpost
    obtain ⟨v0, rfl, hown0, b1⟩ := HC.out _ _ _ _ hpost
    clear hpost
    obtain ⟨p0, c0, g0, rfl, hp0, hc0⟩ := row_cells hown0
    clear hown0
    have P0 := Lib.hid hp0
    have C0 := Lib.hid hc0
    have B1 := Lib.hid b1
    clear hp0 hc0 b1
    go_wp2_with fail
    refine (ifld_any s hsz _).mono ?_
    intro e w2 hpost
    obtain ⟨v1, rfl, hown1, b2⟩ := HC.out _ _ _ _ hpost
    clear hpost
    have hown1' := hown1
    obtain ⟨p1, c1, g1, rfl, hp1, hc1⟩ := row_cells hown1
    have b02 : Below w.heap.size w w2 := B1.out.trans (b2.mono B1.out.size)
    have heq := Lib.hid (eqStringS_any n (by omega) xs p1 p0 c1 c0 g1 g0 w2 hp1 (fun h => ⟨(P0.out h).1, Nat.lt_of_lt_of_le (P0.out h).2 b2.size⟩) hc1 (fun j hj => (b2.cell (p := ⟨g0, j, none⟩) (P0.out (by omega)).2).trans (C0.out j hj)))
    have H1 := Lib.hid hown1'
    have B2 := Lib.hid b2
    clear hp1 hc1 hown1 hown1' b2 b02
    go_wp2_with fail
    refine heq.out.mono ?_
    clear heq
    rintro e w3 ⟨rfl, b3⟩
    have B3 := Lib.hid b3
    have b13 : Below w1.heap.size w1 w3 := B2.out.trans (b3.mono B2.out.size)
    have B13 := Lib.hid b13
    have hmk := Lib.hid (markStringS_any n (by omega) (.slice p1 n c1) _ w1.heap.size w3 (Nat.le_trans B2.out.size b3.size) (ownsRow_belowS H1.out b3))
    clear b3 b13
    obtain ⟨m, hm⟩ : ∃ m : Nat, m = 1 + n := ⟨_, rfl⟩
    have hm9 : m ≤ 4000 := by omega
    have HM := Lib.hid hm
    clear hm
    cases ok
    all_goals
      go_wp2_with fail
      refine hmk.out.mono ?_
      clear hmk
      rw [← HM.out]
      rintro e w4 ⟨rfl, h34, b4, ys, hown4, hys⟩
      have b14 : Below w1.heap.size w1 w4 := B13.out.trans b4
      obtain ⟨g1', hp1', hc1'⟩ : ∃ g, (0 < n → p1 = some ⟨g, 0, none⟩ ∧ g < w4.heap.size) ∧ ∀ j, j < n → w4.cell? ⟨g, j, none⟩ = some (.string (mtx (1 + j))) := by
        by_cases hn0 : n = 0
        · exact ⟨0, fun h => absurd h (by omega), fun j hj => absurd hj (by omega)⟩
        · rcases hown4.2 with ⟨_, h0⟩ | ⟨g, cap, cur, hv, -⟩
          · exact absurd h0 hn0
          · injection hv with h1 h2 h3
            subst h1
            refine ⟨g, fun _ => ⟨rfl, (hown4.lt g rfl).2⟩, fun j hj => ?_⟩
            rw [hown4.cellAt j (by omega)]
            exact hys j hj
      have B14 := Lib.hid b14
      have P1 := Lib.hid hp1'
      have C1 := Lib.hid hc1'
      clear hown4 hys b4 b14 hp1' hc1'
      go_wp2_with fail
      refine (heldStringS_any n (by omega) p1 c1 g1' w4 P1.out C1.out).mono ?_
      rw [← HM.out]
      rintro e w5 ⟨rfl, b5⟩
      have B5 := Lib.hid b5
      have b15 : Below w1.heap.size w1 w5 := B14.out.trans (b5.mono B14.out.size)
      have B15 := Lib.hid b15
      clear b5 b15
      go_wp2_with fail
      refine (ifld_any s hsz _).mono ?_
      intro e w6 hpost
      obtain ⟨v2, rfl, hown2, b6⟩ := HC.out _ _ _ _ hpost
      clear hpost
      obtain ⟨p2, c2, g2, rfl, hp2, hc2⟩ := row_cells hown2
      have b16 : Below w1.heap.size w1 w6 := B15.out.trans (b6.mono B15.out.size)
      have heq := Lib.hid (eqStringS_any n (by omega) xs p2 p0 c2 c0 g2 g0 w6 hp2 (fun h => ⟨(P0.out h).1, Nat.lt_of_lt_of_le (P0.out h).2 b16.size⟩) hc2 (fun j hj => (b16.cell (p := ⟨g0, j, none⟩) (P0.out (by omega)).2).trans (C0.out j hj)))
      have B6 := Lib.hid b6
      have B16 := Lib.hid b16
      clear hp2 hc2 hown2 b6 b16
      go_wp2_with fail
      refine heq.out.mono ?_
      clear heq
      rintro e w7 ⟨rfl, b7⟩
      have b47 : Below w4.heap.size w4 w7 := (B5.out.trans (B6.out.mono B5.out.size)).trans (b7.mono (Nat.le_trans B5.out.size B6.out.size))
      have b17 : Below w1.heap.size w1 w7 := B16.out.trans (b7.mono B16.out.size)
      have hhd := Lib.hid (heldStringS_any n (by omega) p1 c1 g1' w7 (fun h => ⟨(P1.out h).1, Nat.lt_of_lt_of_le (P1.out h).2 b47.size⟩) (fun j hj => (b47.cell (p := ⟨g1', j, none⟩) (P1.out (by omega)).2).trans (C1.out j hj)))
      have B17 := Lib.hid b17
      clear b7 b47 b17
      go_wp2_with fail
      refine hhd.out.mono ?_
      clear hhd
      rw [← HM.out]
      rintro e w8 ⟨rfl, b8⟩
      have b18 : Below w1.heap.size w1 w8 := B17.out.trans (b8.mono B17.out.size)
      go_wp2_with fail
      go_ret
      exact ⟨rfl, B1.out.trans (b18.mono B1.out.size)⟩

/-! The row's step. -/
theorem own : ownKnob Try.prog.godebug = none := by kernel_rfl
theorem laidOut : laidOutB Try.prog = true := by kernel_rfl
set_option maxRecDepth 100000 in
theorem lifted (os : Os) (started : os.Started) (H : Type) (enc : TypeId × Value → H) :
    ReturnsInHanded {} Try.checked os 3 .any (Rows.fnExactSplitFieldsSpec.pre6 enc Try.prog Try.f3 Rows.fnExactSplitFieldsRow.domain false) (Rows.fnExactSplitFieldsSpec.post enc Try.prog Try.f3 false true false false) := by
  refine returnsInHanded_of_change (C := Try.checked) own started (by kernel_rfl) Try.func3
    (ChangeSpec.witness6 (enc := enc) (C := Try.checked) false ⟨#[], #[.string ByteArray.empty], []⟩ 8 (by kernel_rfl) (by kernel_rfl) (by kernel_rfl) (by kernel_rfl)) ?_
  intro W base args ds gs before hval0 hW hcnd _
  have hval : ∀ (j : Nat) t v, Try.f3.params[j]? = some t → args[j]? = some v → Value.okWide Try.prog W .any base t v := hval0
  have hW' := hW
  obtain ⟨p, q, hA0, hV, rfl, hfz, hnd⟩ := hW
  have hA : DataW.TrodAll enc Try.prog W 0 (fun _ => true) true Try.f3.params.toList args.toList ds p := hA0
  rw [Try.params3] at hA hval
  obtain ⟨v0, vs0, d0, ds0, p0, q0, hargs, rfl, rfl, h0, r0⟩ := trodAll_cons hA
  obtain ⟨rfl, rfl, rfl⟩ := trodAll_nil r0
  obtain rfl : args = #[v0] := by cases args; simp_all
  obtain ⟨rfl, rfl⟩ := trodVars_none hV
  have k0 := h0
  have lt0 : ∀ x ∈ p0, x.block < W.heap.size := by obtain ⟨m, hm⟩ := k0; exact DataW.trod_lt m _ _ _ hm
  obtain ⟨a0, rfl, -, -, w0⟩ := open_string Try.underlying9 (hval 0 9 v0 rfl rfl) h0
  clear hA0 hval0
  refine (walk a0 W w0).mono fun e W' ⟨he, bel⟩ => ?_
  subst he
  exact ⟨_, rfl, _, _, _, [], _, [], hW', trodAll_mk1 (shut_bool Try.underlying4 _), (trodAll_cons_mk (Below.trod laidOut (by kernel_rfl) (of_decide_eq_true (by kernel_rfl)) k0 bel lt0) trodAll_mk0), rfl, bel.frame _, fun h => by cases h⟩

theorem over : Rows.fnExactSplitFieldsRow.holds Try.pinned (OpenSpec.ofChange Rows.fnExactSplitFieldsSpec) :=
  OpenClaim.holds_of_wide 3 Try.f3 rfl rfl rfl rfl rfl rfl rfl ⟨rfl, rfl, rfl, rfl, rfl⟩ rfl rfl rfl rfl rfl (by kernel_rfl) Try.func3 (by kernel_rfl)
    (of_decide_eq_true (by kernel_rfl)) (by unfold Func.isWrapper; first | (rw [if_pos (by decide +kernel)]; kernel_rfl) | (rw [if_neg (by decide +kernel)]; exact ⟨rfl, rfl⟩))
    (fun os started H enc _ => lifted os started H enc)

/-- The statement. -/
theorem proved : Rows.FnExactSplitFieldsSaid := over
#print axioms proved
end Go.Proofs.Ytjdmagackoddaab.fnExactSplitFields
