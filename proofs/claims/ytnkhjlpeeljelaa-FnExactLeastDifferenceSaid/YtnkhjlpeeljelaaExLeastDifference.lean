/- For all arguments the exact law of LeastDifference returns true, and the arguments read as before. No condition. -/
import Derived.Test.YtnkhjlpeeljelaaRows
import Derived.Test.YtnkhjlpeeljelaaOpenV
import Derived.Test.YtnkhjlpeeljelaaIntEq
import Derived.Test.YtnkhjlpeeljelaaToInts2
import Derived.Test.YtnkhjlpeeljelaaLeastDiffI
import Derived.Test.YtnkhjlpeeljelaaLeastDiffS
import Derived.Deep.CutRange
import Derived.Deep.RegionWith
import Derived.OpenShut
import Derived.ChangeOld
import Derived.Lib.SmallJoins
namespace Go.Proofs.Ytnkhjlpeeljelaa.fnExactLeastDifference
open Go.ChangeShapes Go.WideShapes Go.ChangeAt Go.RowKit
set_option linter.unusedVariables false

set_option maxRecDepth 100000 in
set_option maxHeartbeats 4000000 in
theorem walk (v0 : Value) (n0 : Nat) (z0 : Nat → Int) (w : World) (m0 : n0 ≤ maxLen) (r0 : Rd w v0 n0 (n0) z0) :
    Calls Try.prog 6 #[v0] w fun e w' => e = .returned (.bool true) ∧ Below w.heap.size w w' := by
  have BW := Lib.hid (Below.refl w.heap.size w)
  have R0 := Lib.hid r0
  clear r0
  by_cases hn0 : n0 ≤ 1048576
  rotate_left
  · have hd0 : decide ((1048576 : Int) < (n0 : Int)) = true := decide_eq_true (by omega)
    obtain ⟨pp0, pc0, pg0, po0, rfl, -, -⟩ := R0.out
    clear R0
    go_enter Try.func6, Try.ntmps6
    go_wp2_with fail
    go_ret
    exact ⟨rfl, by repeat (first | exact Below.refl _ _ | refine Below.alloc ?_ (by simp <;> omega) _ | refine Below.drew ?_)⟩
  have hd0 : decide ((1048576 : Int) < (n0 : Int)) = false := decide_eq_false (by omega)
  have hN0 : n0 ≤ 1048576 := hn0
  obtain ⟨pp0, pc0, pg0, po0, rfl, hpc0, hpf0⟩ := R0.out
  clear R0
  have R0 : Hid (Rd w (.slice pp0 n0 pc0) n0 n0 z0) := ⟨pp0, pc0, pg0, po0, rfl, hpc0, hpf0⟩
  clear hpc0 hpf0
  obtain ⟨I0, hS, hI⟩ : ∃ (I0 : Int), Hid (∀ (W : World) (u0 : Value), Rd W u0 n0 (n0) z0 → Calls Try.prog 29 #[u0] W fun e w' => e = .returned (.int .i64 I0) ∧ Below W.heap.size W w') ∧ Hid (∀ (W : World) (u0 : Value), Rd W u0 n0 (n0) z0 → Calls Try.prog 30 #[u0] W fun e w' => e = .returned (.int .i64 I0) ∧ Below W.heap.size W w') := ⟨ldI n0 z0, fun W u0 h0 => sLeastDiff_v n0 (by unfold maxLen; omega) z0 u0 W h0, fun W u0 h0 => iLeastDiff_v n0 (by unfold maxLen; omega) z0 u0 W h0⟩
  go_enter Try.func6, Try.ntmps6
  have hcon := Lib.hid (fun W (hW : Below w.heap.size w W) => toIntS_v n0 hN0 z0 (.slice pp0 n0 pc0) W (R0.out.later (BW.out.trans (hW.mono (by have := BW.out.size; omega)))))
  go_wp2_with fail
  refine (hcon.out _ (by repeat (first | exact Below.refl _ _ | refine Below.alloc ?_ (by simp <;> omega) _ | refine Below.drew ?_))).mono ?_
  clear hcon
  rintro e w1 ⟨A0, rfl, hr, hb⟩
  have cc : Below w.heap.size w w1 := below_via hb (by repeat (first | exact Below.refl _ _ | refine Below.alloc ?_ (by simp <;> omega) _ | refine Below.drew ?_)) (by simp <;> omega)
  have szw1 : w.heap.size ≤ w1.heap.size := cc.size
  have BV := Lib.hid (BW.out.trans (cc.mono (by have := BW.out.size; omega)))
  clear BW cc hb
  have BW := BV
  clear BV
  have OA0 := Lib.hid (hr.wide (show w.heap.size ≤ _ by simp) (Nat.le_refl _))
  clear hr
  have hcon := Lib.hid (fun W (hW : Below w1.heap.size w1 W) => hS.out W A0 ((OA0.out.below hW (by omega)).rd (by have := hW.size; omega)))
  go_wp2_with fail
  refine (hcon.out _ (by repeat (first | exact Below.refl _ _ | refine Below.alloc ?_ (by simp <;> omega) _ | refine Below.drew ?_))).mono ?_
  clear hcon
  rintro e w2 ⟨rfl, hb⟩
  have cc : Below w1.heap.size w1 w2 := below_via hb (by repeat (first | exact Below.refl _ _ | refine Below.alloc ?_ (by simp <;> omega) _ | refine Below.drew ?_)) (by simp <;> omega)
  have szw2 : w1.heap.size ≤ w2.heap.size := cc.size
  have BV := Lib.hid (BW.out.trans (cc.mono (by have := BW.out.size; omega)))
  clear OA0 BW cc hb
  have BW := BV
  clear BV
  have hcon := Lib.hid (fun W (hW : Below w2.heap.size w2 W) => toIntS_v n0 hN0 z0 (.slice pp0 n0 pc0) W (R0.out.later (BW.out.trans (hW.mono (by have := BW.out.size; omega)))))
  go_wp2_with fail
  refine (hcon.out _ (by repeat (first | exact Below.refl _ _ | refine Below.alloc ?_ (by simp <;> omega) _ | refine Below.drew ?_))).mono ?_
  clear hcon
  rintro e w3 ⟨X0, rfl, hr, hb⟩
  have cc : Below w2.heap.size w2 w3 := below_via hb (by repeat (first | exact Below.refl _ _ | refine Below.alloc ?_ (by simp <;> omega) _ | refine Below.drew ?_)) (by simp <;> omega)
  have szw3 : w2.heap.size ≤ w3.heap.size := cc.size
  have BV := Lib.hid (BW.out.trans (cc.mono (by have := BW.out.size; omega)))
  clear BW cc hb
  have BW := BV
  clear BV
  have OX0 := Lib.hid (hr.wide (show w2.heap.size ≤ _ by simp) (Nat.le_refl _))
  clear hr
  have hcon := Lib.hid (fun W (hW : Below w3.heap.size w3 W) => hI.out W X0 ((OX0.out.below hW (by omega)).rd (by have := hW.size; omega)))
  go_wp2_with fail
  refine (hcon.out _ (by repeat (first | exact Below.refl _ _ | refine Below.alloc ?_ (by simp <;> omega) _ | refine Below.drew ?_))).mono ?_
  clear hcon
  rintro e w4 ⟨rfl, hb⟩
  have cc : Below w3.heap.size w3 w4 := below_via hb (by repeat (first | exact Below.refl _ _ | refine Below.alloc ?_ (by simp <;> omega) _ | refine Below.drew ?_)) (by simp <;> omega)
  have szw4 : w3.heap.size ≤ w4.heap.size := cc.size
  have PX0 := Lib.hid (OX0.out.below cc (by omega))
  have BV := Lib.hid (BW.out.trans (cc.mono (by have := BW.out.size; omega)))
  clear OX0 BW cc hb
  have OX0 := PX0
  clear PX0
  have BW := BV
  clear BV
  have hcon := Lib.hid (fun W (hW : Below w4.heap.size w4 W) => toIntS_v n0 hN0 z0 (.slice pp0 n0 pc0) W (R0.out.later (BW.out.trans (hW.mono (by have := BW.out.size; omega)))))
  go_wp2_with fail
  refine (hcon.out _ (by repeat (first | exact Below.refl _ _ | refine Below.alloc ?_ (by simp <;> omega) _ | refine Below.drew ?_))).mono ?_
  clear hcon
  rintro e w5 ⟨D0, rfl, hr, hb⟩
  have cc : Below w4.heap.size w4 w5 := below_via hb (by repeat (first | exact Below.refl _ _ | refine Below.alloc ?_ (by simp <;> omega) _ | refine Below.drew ?_)) (by simp <;> omega)
  have szw5 : w4.heap.size ≤ w5.heap.size := cc.size
  have PX0 := Lib.hid (OX0.out.below cc (by omega))
  have BV := Lib.hid (BW.out.trans (cc.mono (by have := BW.out.size; omega)))
  clear OX0 BW cc hb
  have OX0 := PX0
  clear PX0
  have BW := BV
  clear BV
  have OD0 := Lib.hid (hr.wide (show w4.heap.size ≤ _ by simp) (Nat.le_refl _))
  clear hr
  have hcon := Lib.hid (fun W (hW : Below w5.heap.size w5 W) => eqIntS_v n0 hN0 (z0) X0 D0 W ((OX0.out.below hW (by omega)).rd (by have := hW.size; omega)) ((OD0.out.below hW (by omega)).rd (by have := hW.size; omega)))
  go_wp2_with fail
  refine (hcon.out _ (by repeat (first | exact Below.refl _ _ | refine Below.alloc ?_ (by simp <;> omega) _ | refine Below.drew ?_))).mono ?_
  clear hcon
  rintro e w6 ⟨rfl, hb⟩
  have cc : Below w5.heap.size w5 w6 := below_via hb (by repeat (first | exact Below.refl _ _ | refine Below.alloc ?_ (by simp <;> omega) _ | refine Below.drew ?_)) (by simp <;> omega)
  have szw6 : w5.heap.size ≤ w6.heap.size := cc.size
  have PX0 := Lib.hid (OX0.out.below cc (by omega))
  have PD0 := Lib.hid (OD0.out.below cc (by omega))
  have BV := Lib.hid (BW.out.trans (cc.mono (by have := BW.out.size; omega)))
  clear OX0 OD0 BW cc hb
  have OX0 := PX0
  clear PX0
  have OD0 := PD0
  clear PD0
  have BW := BV
  clear BV
  clear OD0
  go_wp2_with fail
  go_ret
  exact ⟨rfl, by first | exact BW.out | exact BW.out.drew⟩

/-! The row's step. -/
theorem own : ownKnob Try.prog.godebug = none := by kernel_rfl
theorem laidOut : laidOutB Try.prog = true := by kernel_rfl
set_option maxRecDepth 100000 in
theorem lifted (os : Os) (started : os.Started) (H : Type) (enc : TypeId × Value → H) :
    ReturnsInHanded {} Try.checked os 6 .any (Rows.fnExactLeastDifferenceSpec.pre6 enc Try.prog Try.f6 Rows.fnExactLeastDifferenceRow.domain false) (Rows.fnExactLeastDifferenceSpec.post enc Try.prog Try.f6 false true false false) := by
  refine returnsInHanded_of_change (C := Try.checked) own started (by kernel_rfl) Try.func6
    (ChangeSpec.witness6 (enc := enc) (C := Try.checked) false ⟨#[], #[.slice none 0 0], []⟩ 8 (by kernel_rfl) (by kernel_rfl) (by kernel_rfl) (by kernel_rfl)) ?_
  intro W base args ds gs before hval0 hW hcnd _
  have hval : ∀ (j : Nat) t v, Try.f6.params[j]? = some t → args[j]? = some v → Value.okWide Try.prog W .any base t v := hval0
  have hW' := hW
  obtain ⟨p, q, hA0, hV, rfl, hfz, hnd⟩ := hW
  have hA : DataW.TrodAll enc Try.prog W 0 (fun _ => true) true Try.f6.params.toList args.toList ds p := hA0
  rw [Try.params6] at hA hval
  obtain ⟨v0, vs0, d0, ds0, p0, q0, hargs, rfl, rfl, h0, r0⟩ := trodAll_cons hA
  obtain ⟨rfl, rfl, rfl⟩ := trodAll_nil r0
  obtain rfl : args = #[v0] := by cases args; simp_all
  obtain ⟨rfl, rfl⟩ := trodVars_none hV
  have k0 := h0
  have lt0 : ∀ x ∈ p0, x.block < W.heap.size := by obtain ⟨m, hm⟩ := k0; exact DataW.trod_lt m _ _ _ hm
  obtain ⟨sp0, n0, c0, rfl⟩ := okWide_slice Try.underlying35 (hval 0 35 v0 rfl rfl)
  obtain ⟨z0, cm0, fl0⟩ := ints_openV h0
  clear hA0 hval0
  refine (walk _ n0 z0 W cm0 fl0).mono fun e W' ⟨he, bel⟩ => ?_
  subst he
  exact ⟨_, rfl, _, _, _, [], _, [], hW', trodAll_mk1 (shut_bool Try.underlying4 _), (trodAll_cons_mk (Below.trod laidOut (by kernel_rfl) (of_decide_eq_true (by kernel_rfl)) k0 bel lt0) trodAll_mk0), rfl, bel.frame _, fun h => by cases h⟩

theorem over : Rows.fnExactLeastDifferenceRow.holds Try.pinned (OpenSpec.ofChange Rows.fnExactLeastDifferenceSpec) :=
  OpenClaim.holds_of_wide 6 Try.f6 rfl rfl rfl rfl rfl rfl rfl ⟨rfl, rfl, rfl, rfl, rfl⟩ rfl rfl rfl rfl rfl (by kernel_rfl) Try.func6 (by kernel_rfl)
    (of_decide_eq_true (by kernel_rfl)) (by unfold Func.isWrapper; first | (rw [if_pos (by decide +kernel)]; kernel_rfl) | (rw [if_neg (by decide +kernel)]; exact ⟨rfl, rfl⟩))
    (fun os started H enc _ => lifted os started H enc)

/-- The statement. -/
theorem proved : Rows.FnExactLeastDifferenceSaid := over
#print axioms proved
end Go.Proofs.Ytnkhjlpeeljelaa.fnExactLeastDifference
