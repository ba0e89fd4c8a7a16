/- For all arguments the exact law of BoxBound returns true, and the arguments read as before. No condition. -/
import Derived.Test.YtnkhjlpeeljelaaRows
import Derived.Test.YtnkhjlpeeljelaaBlk
import Derived.Test.YtnkhjlpeeljelaaLimits
import Derived.Test.YtnkhjlpeeljelaaOpenQ
import Derived.Test.YtnkhjlpeeljelaaRowPiece
import Derived.Test.YtnkhjlpeeljelaaBoundI
import Derived.Test.YtnkhjlpeeljelaaBoundS
import Derived.OpenShut
import Derived.ChangeOld
import Derived.Lib.SmallJoins
namespace Go.Proofs.Ytnkhjlpeeljelaa.fnExactBoxBound
open Go.ChangeShapes Go.WideShapes Go.ChangeAt Go.RowKit
set_option linter.unusedVariables false

theorem cells2 {w : World} {k : Nat} {a b : Value} {t : TypeId} (h : w.heap[k]? = some (.cells #[a, b] t (0, 0))) : w.cell? ⟨k, 0, none⟩ = some a ∧ w.cell? ⟨k, 1, none⟩ = some b :=
  ⟨by simp [World.cell?, h], by simp [World.cell?, h]⟩

set_option maxRecDepth 100000 in
set_option maxHeartbeats 8000000 in
theorem walk (A1 B1 : Int) (v1 : Value) (n1 : Nat) (z1 : Nat → Int) (w : World) (wA : (Lit.int .i64 A1).wf = true) (wB : (Lit.int .i64 B1).wf = true) (m1 : n1 ≤ maxLen) (r1 : Rd w v1 n1 (n1 * 3) z1) (q1 : ∀ i, i < n1 * 3 → (Lit.int .i64 (z1 i)).wf = true) :
    Calls Try.prog 8 #[.agg #[.int .i64 A1, .int .i64 B1], v1] w fun e w' => e = .returned (.bool true) ∧ Below w.heap.size w w' := by
  have R1 := Lib.hid r1
  have Q1 := Lib.hid q1
  clear r1 q1
  have hsz := Lib.hid (fun W (hW : Below w.heap.size w W) => szPieceS_v n1 v1 1048576 (by omega) m1 (n1 * 3) z1 W (R1.out.later hW))
  by_cases hn1 : n1 ≤ 1048576
  rotate_left
  · simp only [if_neg hn1] at hsz
    go_enter Try.func8, Try.ntmps8
    go_wp2_with fail
    refine (hsz.out _ (by repeat (first | exact Below.refl _ _ | refine Below.alloc ?_ (by simp <;> omega) _ | refine Below.setCell ?_ (by simp <;> omega) _ | refine Below.drew ?_))).mono ?_
    rintro e wz ⟨rfl, rfl⟩
    go_wp2_with fail
    go_ret
    exact ⟨rfl, by repeat (first | exact Below.refl _ _ | refine Below.alloc ?_ (by simp <;> omega) _ | refine Below.setCell ?_ (by simp <;> omega) _ | refine Below.drew ?_)⟩
  simp only [if_pos hn1] at hsz
  obtain ⟨I0, hS, hI⟩ : ∃ (I0 : Int), Hid (∀ (W : World) (u : Value), Rd W u n1 (n1 * 3) z1 → Calls Try.prog 36 #[.agg #[.int .i64 A1, .int .i64 B1], u] W fun e w' => e = .returned (.int .i64 I0) ∧ Below W.heap.size W w') ∧ Hid (∀ (W : World) (u : Value), Rd W u n1 (n1 * 3) z1 → Calls Try.prog 37 #[.agg #[.int .i64 A1, .int .i64 B1], u] W fun e w' => e = .returned (.int .i64 I0) ∧ Below W.heap.size W w') := ⟨bbI A1 B1 n1 z1, fun W u h => sBound_v A1 B1 n1 (by unfold maxLen; omega) z1 u W h, fun W u h => iBound_v A1 B1 n1 (by unfold maxLen; omega) z1 u W h Q1.out⟩
  have hto := Lib.hid (fun W (hW : Below w.heap.size w W) => toPieceS_v n1 hn1 z1 v1 W (R1.out.later hW))
  have heq := Lib.hid (fun W va vb ha hb => eqPieceS_v n1 hn1 z1 va vb W ha hb)
  clear hn1
  have hne : (I0 != I0) = false := by simp
  go_enter Try.func8, Try.ntmps8
  go_wp2_with fail
  refine (hsz.out _ (by repeat (first | exact Below.refl _ _ | refine Below.alloc ?_ (by simp <;> omega) _ | refine Below.setCell ?_ (by simp <;> omega) _ | refine Below.drew ?_))).mono ?_
  rintro e wz ⟨rfl, rfl⟩
  clear hsz
  go_wp2_with fail
  refine (toLimits_any A1 B1 _).mono ?_
  rintro e w1 ⟨rfl, hb⟩
  have B1' : Hid (Below w.heap.size w w1) := below_via hb (by repeat (first | exact Below.refl _ _ | refine Below.alloc ?_ (by simp <;> omega) _ | refine Below.setCell ?_ (by simp <;> omega) _ | refine Below.drew ?_)) (by simp <;> omega)
  have XA : Hid (w1.heap[w.heap.size]? = some (.cells #[.int .i64 A1, .int .i64 B1] 23 (0, 0))) := (hb.block _ (by simp <;> omega)).trans (heap_new _ _ _ rfl)
  clear hb
  go_wp2_with fail
  refine (hto.out _ B1'.out).mono ?_
  rintro e w2 ⟨v2, rfl, qq, hb⟩
  have B2 := Lib.hid (B1'.out.trans (hb.mono B1'.out.size))
  have R2 := Lib.hid (qq.rd (Nat.le_refl _))
  have YA := Lib.hid (blk_later XA.out hb)
  clear XA hb qq B1'
  go_wp2_with fail
  refine (hS.out _ v2 R2.out).mono ?_
  rintro e w3 ⟨rfl, hb⟩
  have B3 := Lib.hid (B2.out.trans (hb.mono B2.out.size))
  have XA := Lib.hid (blk_later YA.out hb)
  clear YA hb R2 B2 hS
  go_wp2_with fail
  refine (hto.out _ B3.out).mono ?_
  rintro e w4 ⟨v4, rfl, qq, hb⟩
  have B4 := Lib.hid (B3.out.trans (hb.mono B3.out.size))
  have R4 := Lib.hid (qq.rd (Nat.le_refl _))
  have YA := Lib.hid (blk_later XA.out hb)
  clear XA hb qq B3
  obtain ⟨xA0, xA1⟩ := cells2 YA.out
  go_wp2_with fail
  refine (toLimits_any A1 B1 _).mono ?_
  rintro e w5 ⟨rfl, hb⟩
  have B5 := Lib.hid (B4.out.trans (hb.mono B4.out.size))
  have R5 := Lib.hid (R4.out.later hb)
  clear hb R4 B4 xA0 xA1 YA
  go_wp2_with fail
  refine (hI.out _ v4 R5.out).mono ?_
  rintro e w6 ⟨rfl, hb⟩
  have B6 := Lib.hid (B5.out.trans (hb.mono B5.out.size))
  have R6 := Lib.hid (R5.out.later hb)
  clear hb R5 B5 hI
  go_wp2_with fail
  refine (hto.out _ B6.out).mono ?_
  rintro e w7 ⟨v7, rfl, qq, hb⟩
  have B7 := Lib.hid (B6.out.trans (hb.mono B6.out.size))
  have R7 := Lib.hid (R6.out.later hb)
  have R8 := Lib.hid (qq.rd (Nat.le_refl _))
  clear hb R6 B6 qq hto
  go_wp2_with fail
  refine (heq.out _ v4 v7 R7.out R8.out).mono ?_
  rintro e w8 ⟨rfl, hb⟩
  have B8 := Lib.hid (B7.out.trans (hb.mono B7.out.size))
  clear hb R7 R8 B7 heq
  go_wp2_with fail
  go_ret
  exact ⟨rfl, B8.out⟩


/-! The row's step. -/
theorem own : ownKnob Try.prog.godebug = none := by kernel_rfl
theorem laidOut : laidOutB Try.prog = true := by kernel_rfl
set_option maxRecDepth 100000 in
theorem lifted (os : Os) (started : os.Started) (H : Type) (enc : TypeId × Value → H) :
    ReturnsInHanded {} Try.checked os 8 .any (Rows.fnExactBoxBoundSpec.pre6 enc Try.prog Try.f8 Rows.fnExactBoxBoundRow.domain false) (Rows.fnExactBoxBoundSpec.post enc Try.prog Try.f8 false true false false) := by
  refine returnsInHanded_of_change (C := Try.checked) own started (by kernel_rfl) Try.func8
    (ChangeSpec.witness6 (enc := enc) (C := Try.checked) false ⟨#[], #[.agg #[.int .i64 0, .int .i64 0], .slice none 0 0], []⟩ 8 (by kernel_rfl) (by kernel_rfl) (by kernel_rfl) (by kernel_rfl)) ?_
  intro W base args ds gs before hval0 hW hcnd _
  have hval : ∀ (j : Nat) t v, Try.f8.params[j]? = some t → args[j]? = some v → Value.okWide Try.prog W .any base t v := hval0
  have hW' := hW
  obtain ⟨p, q, hA0, hV, rfl, hfz, hnd⟩ := hW
  have hA : DataW.TrodAll enc Try.prog W 0 (fun _ => true) true Try.f8.params.toList args.toList ds p := hA0
  rw [Try.params8] at hA hval
  obtain ⟨v0, vs0, d0, ds0, p0, q0, hargs, rfl, rfl, h0, r0⟩ := trodAll_cons hA
  obtain ⟨v1, vs1, d1, ds1, p1, q1, rfl, rfl, rfl, h1, r1⟩ := trodAll_cons r0
  obtain ⟨rfl, rfl, rfl⟩ := trodAll_nil r1
  obtain rfl : args = #[v0, v1] := by cases args; simp_all
  obtain ⟨rfl, rfl⟩ := trodVars_none hV
  have k0 := h0
  have lt0 : ∀ x ∈ p0, x.block < W.heap.size := by obtain ⟨m, hm⟩ := k0; exact DataW.trod_lt m _ _ _ hm
  obtain ⟨cA0, cB0, yA0, yB0, m0, rfl, -, -, hA0, hB0⟩ := Joins.open_agg2 Try.underlying23 (by kernel_rfl) (show Try.prog.cellsOf 23 = 2 by kernel_rfl) (hval 0 23 v0 rfl rfl) h0
  obtain ⟨A0, eA0, -, wA0⟩ := DataW.trod_int Try.underlying3 hA0
  obtain ⟨B0, eB0, -, wB0⟩ := DataW.trod_int Try.underlying3 hB0
  simp only [List.cons.injEq, and_true] at eA0 eB0
  subst eA0 eB0
  have k1 := h1
  have lt1 : ∀ x ∈ p1, x.block < W.heap.size := by obtain ⟨m, hm⟩ := k1; exact DataW.trod_lt m _ _ _ hm
  obtain ⟨sp1, n1, c1, rfl⟩ := okWide_slice Try.underlying28 (hval 1 28 v1 rfl rfl)
  obtain ⟨z1, cm1, fl1, wq1⟩ := rows_openQ Try.underlying28 Try.underlying64 (by kernel_rfl) (show Try.prog.cellsOf 64 = 3 by kernel_rfl) rfl (by decide) Try.underlying3 (by kernel_rfl) h1
  clear hA0 hval0
  refine (walk A0 B0 _ n1 z1 W wA0 wB0 cm1 fl1 wq1).mono fun e W' ⟨he, bel⟩ => ?_
  subst he
  exact ⟨_, rfl, _, _, _, [], _, [], hW', trodAll_mk1 (shut_bool Try.underlying4 _), (trodAll_cons_mk (Below.trod laidOut (by kernel_rfl) (of_decide_eq_true (by kernel_rfl)) k0 bel lt0) (trodAll_cons_mk (Below.trod laidOut (by kernel_rfl) (of_decide_eq_true (by kernel_rfl)) k1 bel lt1) trodAll_mk0)), rfl, bel.frame _, fun h => by cases h⟩

theorem over : Rows.fnExactBoxBoundRow.holds Try.pinned (OpenSpec.ofChange Rows.fnExactBoxBoundSpec) :=
  OpenClaim.holds_of_wide 8 Try.f8 rfl rfl rfl rfl rfl rfl rfl ⟨rfl, rfl, rfl, rfl, rfl⟩ rfl rfl rfl rfl rfl (by kernel_rfl) Try.func8 (by kernel_rfl)
    (of_decide_eq_true (by kernel_rfl)) (by unfold Func.isWrapper; first | (rw [if_pos (by decide +kernel)]; kernel_rfl) | (rw [if_neg (by decide +kernel)]; exact ⟨rfl, rfl⟩))
    (fun os started H enc _ => lifted os started H enc)

/-- The statement. -/
theorem proved : Rows.FnExactBoxBoundSaid := over
#print axioms proved
end Go.Proofs.Ytnkhjlpeeljelaa.fnExactBoxBound
