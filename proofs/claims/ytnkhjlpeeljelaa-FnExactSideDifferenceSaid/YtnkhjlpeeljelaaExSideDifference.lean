/- For all arguments the exact law of SideDifference returns true, and the arguments read as before. No condition. -/
import Derived.Test.YtnkhjlpeeljelaaRows
import Derived.Test.YtnkhjlpeeljelaaBlk
import Derived.Test.YtnkhjlpeeljelaaIntEq
import Derived.Test.YtnkhjlpeeljelaaToInts2
import Derived.Test.YtnkhjlpeeljelaaSideI
import Derived.Test.YtnkhjlpeeljelaaSideS
import Derived.Test.YtnkhjlpeeljelaaOpenV
import Derived.OpenShut
import Derived.ChangeOld
import Derived.Lib.SmallJoins
namespace Go.Proofs.Ytnkhjlpeeljelaa.fnExactSideDifference
open Go.ChangeShapes Go.WideShapes Go.ChangeAt Go.RowKit
set_option linter.unusedVariables false

set_option maxRecDepth 100000 in
set_option maxHeartbeats 8000000 in
theorem walk (v0 : Value) (n0 : Nat) (z0 : Nat → Int) (v1 : Value) (n1 : Nat) (z1 : Nat → Bool) (w : World) (m0 : n0 ≤ maxLen) (r0 : Rd w v0 n0 n0 z0) (m1 : n1 ≤ maxLen) (r1 : RdB w v1 n1 z1) :
    Calls Try.prog 5 #[v0, v1] w fun e w' => e = .returned (.bool true) ∧ Below w.heap.size w w' := by
  obtain ⟨p0, c0, g0, o0, rfl, nc0, f0⟩ := r0
  obtain ⟨p1, c1, g1, o1, rfl, nc1, f1⟩ := r1
  have R0 := Lib.hid (show Rd w (.slice p0 n0 c0) n0 n0 z0 from ⟨p0, c0, g0, o0, rfl, nc0, f0⟩)
  have R1 := Lib.hid (show RdB w (.slice p1 n1 c1) n1 z1 from ⟨p1, c1, g1, o1, rfl, nc1, f1⟩)
  clear f0 f1 nc0 nc1
  by_cases hn0 : n0 ≤ 1048576
  rotate_left
  · have hd0 : decide ((1048576 : Int) < (n0 : Int)) = true := decide_eq_true (by omega)
    go_enter Try.func5, Try.ntmps5
    go_wp2_with fail
    go_ret
    exact ⟨rfl, Below.refl _ _⟩
  have hd0 : decide ((1048576 : Int) < (n0 : Int)) = false := decide_eq_false (by omega)
  by_cases hn1 : n1 ≤ 1048576
  rotate_left
  · have hd1 : decide ((1048576 : Int) < (n1 : Int)) = true := decide_eq_true (by omega)
    go_enter Try.func5, Try.ntmps5
    go_wp2_with fail
    go_ret
    exact ⟨rfl, Below.refl _ _⟩
  have hd1 : decide ((1048576 : Int) < (n1 : Int)) = false := decide_eq_false (by omega)
  obtain ⟨I0, hI0⟩ : ∃ I, I = sdI n0 z0 n1 z1 := ⟨_, rfl⟩
  have hS := Lib.hid (fun W u v (hu : Rd W u n0 n0 z0) (hv : RdB W v n1 z1) => sSide_v n0 (by unfold maxLen; omega) z0 u n1 (by unfold maxLen; omega) z1 v W hu hv)
  have hI := Lib.hid (fun W u v (hu : Rd W u n0 n0 z0) (hv : RdB W v n1 z1) => iSide_v n0 (by unfold maxLen; omega) z0 u n1 (by unfold maxLen; omega) z1 v W hu hv)
  rw [← hI0] at hS hI
  clear hI0
  have hti := Lib.hid (fun W (hW : Below w.heap.size w W) => toIntS_v n0 hn0 z0 (.slice p0 n0 c0) W (R0.out.later hW))
  have htb := Lib.hid (fun W (hW : Below w.heap.size w W) => toBoolS_v n1 hn1 z1 (.slice p1 n1 c1) W (R1.out.later hW))
  have hei := Lib.hid (fun W va vb ha hb => eqIntS_v n0 hn0 z0 va vb W ha hb)
  have heb := Lib.hid (fun W va vb ha hb => eqBoolS_v n1 hn1 z1 va vb W ha hb)
  have hne : (I0 != I0) = false := by simp
  go_enter Try.func5, Try.ntmps5
  have BW0 := Lib.hid (Below.refl w.heap.size w)
  go_wp2_with fail
  refine (hti.out _ BW0.out).mono ?_
  rintro e w1 ⟨va, rfl, OA, hb⟩
  have E1 : Below w.heap.size w w1 := below_via hb (by repeat (first | exact Below.refl _ _ | refine Below.alloc ?_ (by simp <;> omega) _ | refine Below.setCell ?_ (by simp <;> omega) _ | refine Below.drew ?_)) (by first | (simp; done) | omega | (simp; omega))
  have sz1 : w.heap.size ≤ w1.heap.size := E1.size
  have BW1 := Lib.hid (BW0.out.trans (E1.mono BW0.out.size))
  have OA_1 := Lib.hid OA
  clear hb E1 BW0 OA
  go_wp2_with fail
  refine (htb.out _ BW1.out).mono ?_
  rintro e w2 ⟨vb, rfl, OB, hb⟩
  have E2 : Below w1.heap.size w1 w2 := below_via hb (by repeat (first | exact Below.refl _ _ | refine Below.alloc ?_ (by simp <;> omega) _ | refine Below.setCell ?_ (by simp <;> omega) _ | refine Below.drew ?_)) (by first | (simp; done) | omega | (simp; omega))
  have sz2 : w1.heap.size ≤ w2.heap.size := E2.size
  have BW2 := Lib.hid (BW1.out.trans (E2.mono BW1.out.size))
  have OA_2 := Lib.hid (OA_1.out.below E2 (by first | exact Nat.le_refl _ | omega))
  have OB_2 := Lib.hid OB
  clear hb E2 BW1 OA_1 OB
  go_wp2_with fail
  refine (hS.out _ va vb (OA_2.out.rd (by omega)) (OB_2.out.rd (by omega))).mono ?_
  rintro e wz ⟨rfl, rfl⟩
  go_wp2_with fail
  refine (hti.out _ BW2.out).mono ?_
  rintro e w3 ⟨vc, rfl, OC, hb⟩
  have E3 : Below w2.heap.size w2 w3 := below_via hb (by repeat (first | exact Below.refl _ _ | refine Below.alloc ?_ (by simp <;> omega) _ | refine Below.setCell ?_ (by simp <;> omega) _ | refine Below.drew ?_)) (by first | (simp; done) | omega | (simp; omega))
  have sz3 : w2.heap.size ≤ w3.heap.size := E3.size
  have BW3 := Lib.hid (BW2.out.trans (E3.mono BW2.out.size))
  have OA_3 := Lib.hid (OA_2.out.below E3 (by first | exact Nat.le_refl _ | omega))
  have OB_3 := Lib.hid (OB_2.out.below E3 (by first | exact Nat.le_refl _ | omega))
  have OC_3 := Lib.hid OC
  clear hb E3 BW2 OA_2 OB_2 OC
  go_wp2_with fail
  refine (htb.out _ BW3.out).mono ?_
  rintro e w4 ⟨vd, rfl, OD, hb⟩
  have E4 : Below w3.heap.size w3 w4 := below_via hb (by repeat (first | exact Below.refl _ _ | refine Below.alloc ?_ (by simp <;> omega) _ | refine Below.setCell ?_ (by simp <;> omega) _ | refine Below.drew ?_)) (by first | (simp; done) | omega | (simp; omega))
  have sz4 : w3.heap.size ≤ w4.heap.size := E4.size
  have BW4 := Lib.hid (BW3.out.trans (E4.mono BW3.out.size))
  have OA_4 := Lib.hid (OA_3.out.below E4 (by first | exact Nat.le_refl _ | omega))
  have OB_4 := Lib.hid (OB_3.out.below E4 (by first | exact Nat.le_refl _ | omega))
  have OC_4 := Lib.hid (OC_3.out.below E4 (by first | exact Nat.le_refl _ | omega))
  have OD_4 := Lib.hid OD
  clear hb E4 BW3 OA_3 OB_3 OC_3 OD
  go_wp2_with fail
  refine (hI.out _ vc vd (OC_4.out.rd (by omega)) (OD_4.out.rd (by omega))).mono ?_
  rintro e w5 ⟨rfl, hb⟩
  have E5 : Below w4.heap.size w4 w5 := below_via hb (by repeat (first | exact Below.refl _ _ | refine Below.alloc ?_ (by simp <;> omega) _ | refine Below.setCell ?_ (by simp <;> omega) _ | refine Below.drew ?_)) (by first | (simp; done) | omega | (simp; omega))
  have sz5 : w4.heap.size ≤ w5.heap.size := E5.size
  have BW5 := Lib.hid (BW4.out.trans (E5.mono BW4.out.size))
  have OC_5 := Lib.hid (OC_4.out.below E5 (by first | exact Nat.le_refl _ | omega))
  have OD_5 := Lib.hid (OD_4.out.below E5 (by first | exact Nat.le_refl _ | omega))
  clear hb E5 BW4 OA_4 OB_4 OC_4 OD_4
  go_wp2_with fail
  refine (hti.out _ BW5.out).mono ?_
  rintro e w6 ⟨ve, rfl, OE, hb⟩
  have E6 : Below w5.heap.size w5 w6 := below_via hb (by repeat (first | exact Below.refl _ _ | refine Below.alloc ?_ (by simp <;> omega) _ | refine Below.setCell ?_ (by simp <;> omega) _ | refine Below.drew ?_)) (by first | (simp; done) | omega | (simp; omega))
  have sz6 : w5.heap.size ≤ w6.heap.size := E6.size
  have BW6 := Lib.hid (BW5.out.trans (E6.mono BW5.out.size))
  have OC_6 := Lib.hid (OC_5.out.below E6 (by first | exact Nat.le_refl _ | omega))
  have OD_6 := Lib.hid (OD_5.out.below E6 (by first | exact Nat.le_refl _ | omega))
  have OE_6 := Lib.hid OE
  clear hb E6 BW5 OC_5 OD_5 OE
  go_wp2_with fail
  refine (hei.out _ vc ve (OC_6.out.rd (by omega)) (OE_6.out.rd (by omega))).mono ?_
  rintro e w7 ⟨rfl, hb⟩
  have E7 : Below w6.heap.size w6 w7 := below_via hb (by repeat (first | exact Below.refl _ _ | refine Below.alloc ?_ (by simp <;> omega) _ | refine Below.setCell ?_ (by simp <;> omega) _ | refine Below.drew ?_)) (by first | (simp; done) | omega | (simp; omega))
  have sz7 : w6.heap.size ≤ w7.heap.size := E7.size
  have BW7 := Lib.hid (BW6.out.trans (E7.mono BW6.out.size))
  have OD_7 := Lib.hid (OD_6.out.below E7 (by first | exact Nat.le_refl _ | omega))
  clear hb E7 BW6 OC_6 OD_6 OE_6
  go_wp2_with fail
  refine (htb.out _ BW7.out).mono ?_
  rintro e w8 ⟨vf, rfl, OF, hb⟩
  have E8 : Below w7.heap.size w7 w8 := below_via hb (by repeat (first | exact Below.refl _ _ | refine Below.alloc ?_ (by simp <;> omega) _ | refine Below.setCell ?_ (by simp <;> omega) _ | refine Below.drew ?_)) (by first | (simp; done) | omega | (simp; omega))
  have sz8 : w7.heap.size ≤ w8.heap.size := E8.size
  have BW8 := Lib.hid (BW7.out.trans (E8.mono BW7.out.size))
  have OD_8 := Lib.hid (OD_7.out.below E8 (by first | exact Nat.le_refl _ | omega))
  have OF_8 := Lib.hid OF
  clear hb E8 BW7 OD_7 OF
  go_wp2_with fail
  refine (heb.out _ vd vf (OD_8.out.rd (by omega)) (OF_8.out.rd (by omega))).mono ?_
  rintro e w9 ⟨rfl, hb⟩
  have E9 : Below w8.heap.size w8 w9 := below_via hb (by repeat (first | exact Below.refl _ _ | refine Below.alloc ?_ (by simp <;> omega) _ | refine Below.setCell ?_ (by simp <;> omega) _ | refine Below.drew ?_)) (by first | (simp; done) | omega | (simp; omega))
  have sz9 : w8.heap.size ≤ w9.heap.size := E9.size
  have BW9 := Lib.hid (BW8.out.trans (E9.mono BW8.out.size))
  clear hb E9 BW8 OD_8 OF_8
  go_wp2_with fail
  go_ret
  exact ⟨rfl, BW9.out⟩

/-! The row's step. -/
theorem own : ownKnob Try.prog.godebug = none := by kernel_rfl
theorem laidOut : laidOutB Try.prog = true := by kernel_rfl
set_option maxRecDepth 100000 in
theorem lifted (os : Os) (started : os.Started) (H : Type) (enc : TypeId × Value → H) :
    ReturnsInHanded {} Try.checked os 5 .any (Rows.fnExactSideDifferenceSpec.pre6 enc Try.prog Try.f5 Rows.fnExactSideDifferenceRow.domain false) (Rows.fnExactSideDifferenceSpec.post enc Try.prog Try.f5 false true false false) := by
  refine returnsInHanded_of_change (C := Try.checked) own started (by kernel_rfl) Try.func5
    (ChangeSpec.witness6 (enc := enc) (C := Try.checked) false ⟨#[], #[.slice none 0 0, .slice none 0 0], []⟩ 8 (by kernel_rfl) (by kernel_rfl) (by kernel_rfl) (by kernel_rfl)) ?_
  intro W base args ds gs before hval0 hW hcnd _
  have hval : ∀ (j : Nat) t v, Try.f5.params[j]? = some t → args[j]? = some v → Value.okWide Try.prog W .any base t v := hval0
  have hW' := hW
  obtain ⟨p, q, hA0, hV, rfl, hfz, hnd⟩ := hW
  have hA : DataW.TrodAll enc Try.prog W 0 (fun _ => true) true Try.f5.params.toList args.toList ds p := hA0
  rw [Try.params5] at hA hval
  obtain ⟨v0, vs0, d0, ds0, p0, q0, hargs, rfl, rfl, h0, r0⟩ := trodAll_cons hA
  obtain ⟨v1, vs1, d1, ds1, p1, q1, rfl, rfl, rfl, h1, r1⟩ := trodAll_cons r0
  obtain ⟨rfl, rfl, rfl⟩ := trodAll_nil r1
  obtain rfl : args = #[v0, v1] := by cases args; simp_all
  obtain ⟨rfl, rfl⟩ := trodVars_none hV
  have k0 := h0
  have lt0 : ∀ x ∈ p0, x.block < W.heap.size := by obtain ⟨m, hm⟩ := k0; exact DataW.trod_lt m _ _ _ hm
  obtain ⟨sp0, n0, c0, rfl⟩ := okWide_slice Try.underlying35 (hval 0 35 v0 rfl rfl)
  obtain ⟨z0, cm0, fl0⟩ := ints_openV h0
  have k1 := h1
  have lt1 : ∀ x ∈ p1, x.block < W.heap.size := by obtain ⟨m, hm⟩ := k1; exact DataW.trod_lt m _ _ _ hm
  obtain ⟨sp1, n1, c1, rfl⟩ := okWide_slice Try.underlying36 (hval 1 36 v1 rfl rfl)
  obtain ⟨z1, cm1, fl1⟩ := bools_openV h1
  clear hA0 hval0
  refine (walk _ n0 z0 _ n1 z1 W cm0 fl0 cm1 fl1).mono fun e W' ⟨he, bel⟩ => ?_
  subst he
  exact ⟨_, rfl, _, _, _, [], _, [], hW', trodAll_mk1 (shut_bool Try.underlying4 _), (trodAll_cons_mk (Below.trod laidOut (by kernel_rfl) (of_decide_eq_true (by kernel_rfl)) k0 bel lt0) (trodAll_cons_mk (Below.trod laidOut (by kernel_rfl) (of_decide_eq_true (by kernel_rfl)) k1 bel lt1) trodAll_mk0)), rfl, bel.frame _, fun h => by cases h⟩

theorem over : Rows.fnExactSideDifferenceRow.holds Try.pinned (OpenSpec.ofChange Rows.fnExactSideDifferenceSpec) :=
  OpenClaim.holds_of_wide 5 Try.f5 rfl rfl rfl rfl rfl rfl rfl ⟨rfl, rfl, rfl, rfl, rfl⟩ rfl rfl rfl rfl rfl (by kernel_rfl) Try.func5 (by kernel_rfl)
    (of_decide_eq_true (by kernel_rfl)) (by unfold Func.isWrapper; first | (rw [if_pos (by decide +kernel)]; kernel_rfl) | (rw [if_neg (by decide +kernel)]; exact ⟨rfl, rfl⟩))
    (fun os started H enc _ => lifted os started H enc)

/-- The statement. -/
theorem proved : Rows.FnExactSideDifferenceSaid := over
#print axioms proved
end Go.Proofs.Ytnkhjlpeeljelaa.fnExactSideDifference
