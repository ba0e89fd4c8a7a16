/- For all arguments the exact law of Lay returns true, and the arguments read as before. No condition. -/
import Derived.Test.YtnkhjlpeeljelaaRows
import Derived.Test.YtnkhjlpeeljelaaBlk
import Derived.Test.YtnkhjlpeeljelaaIntEq
import Derived.Test.YtnkhjlpeeljelaaToInts2
import Derived.Test.YtnkhjlpeeljelaaIntRows
import Derived.Test.YtnkhjlpeeljelaaBoolRows
import Derived.Test.YtnkhjlpeeljelaaLayI
import Derived.Test.YtnkhjlpeeljelaaLayS
import Derived.Test.YtnkhjlpeeljelaaOpenV
import Derived.OpenShut
import Derived.ChangeOld
import Derived.Lib.SmallJoins
namespace Go.Proofs.Ytnkhjlpeeljelaa.fnExactLay
open Go.ChangeShapes Go.WideShapes Go.ChangeAt Go.RowKit
set_option linter.unusedVariables false

set_option maxRecDepth 100000 in
set_option maxHeartbeats 8000000 in
theorem walk (v0 : Value) (n0 : Nat) (z0 : Nat → Int) (w : World) (m0 : n0 ≤ maxLen) (r0 : Rd w v0 n0 n0 z0) :
    Calls Try.prog 7 #[v0] w fun e w' => e = .returned (.bool true) ∧ Below w.heap.size w w' := by
  obtain ⟨p0, c0, g0, o0, rfl, nc0, f0⟩ := r0
  have R0 := Lib.hid (show Rd w (.slice p0 n0 c0) n0 n0 z0 from ⟨p0, c0, g0, o0, rfl, nc0, f0⟩)
  clear f0 nc0
  by_cases hn0 : n0 ≤ 1048576
  rotate_left
  · have hd0 : decide ((1048576 : Int) < (n0 : Int)) = true := decide_eq_true (by omega)
    go_enter Try.func7, Try.ntmps7
    go_wp2_with fail
    go_ret
    exact ⟨rfl, Below.refl _ _⟩
  have hd0 : decide ((1048576 : Int) < (n0 : Int)) = false := decide_eq_false (by omega)
  obtain ⟨N0, hN0⟩ : ∃ N, N = layN n0 z0 := ⟨_, rfl⟩
  obtain ⟨Z0, hZ0⟩ : ∃ Z, Z = sdl n0 (layK n0 z0) := ⟨_, rfl⟩
  have hL0 : N0 ≤ 1048576 := by rw [hN0]; unfold layN; split <;> omega
  have hS := Lib.hid (fun W u (hu : Rd W u n0 n0 z0) => sLay_v n0 (by unfold maxLen; omega) z0 u W hu)
  have hI := Lib.hid (fun W u (hu : Rd W u n0 n0 z0) => iLay_v n0 (by unfold maxLen; omega) z0 u W hu)
  rw [← hN0, ← hZ0] at hS hI
  clear hN0 hZ0
  have hti := Lib.hid (fun W (hW : Below w.heap.size w W) => toIntS_v n0 hn0 z0 (.slice p0 n0 c0) W (R0.out.later hW))
  have hei := Lib.hid (fun W va vb ha hb => eqIntS_v n0 hn0 z0 va vb W ha hb)
  have heb := Lib.hid (fun W va vb ha hb => eqBoolS_v N0 hL0 Z0 va vb W ha hb)
  have hmi := Lib.hid (fun W lo hi v h => markIntS_v 1 n0 hn0 (by omega) z0 lo hi v W h)
  have hmb := Lib.hid (fun W lo hi v h => markBoolS_v 1 N0 hL0 (by omega) Z0 lo hi v W h)
  have hhb := Lib.hid (fun W v h => heldBoolS_v 1 N0 hL0 (by omega) v W h)
  obtain ⟨K1, hK1⟩ : ∃ K, K = 1 + n0 := ⟨_, rfl⟩
  have bK1 : K1 ≤ 100000000 := by omega
  rw [← hK1] at hmi
  clear hK1
  obtain ⟨K2, hK2⟩ : ∃ K, K = 1 + N0 := ⟨_, rfl⟩
  have bK2 : K2 ≤ 100000000 := by omega
  rw [← hK2] at hmb hhb
  clear hK2
  go_enter Try.func7, Try.ntmps7
  have BW0 := Lib.hid (Below.refl w.heap.size w)
  go_wp2_with fail
  refine (hti.out _ BW0.out).mono ?_
  rintro e w1 ⟨va, rfl, OA, hb⟩
  have E1 : Below w.heap.size w w1 := below_via hb (by repeat (first | exact Below.refl _ _ | refine Below.alloc ?_ (by simp <;> omega) _ | refine Below.setCell ?_ (by simp <;> omega) _ | refine Below.drew ?_)) (by first | (simp; done) | omega | (simp; omega))
  have sz1 : w.heap.size ≤ w1.heap.size := E1.size
  have BW1 := Lib.hid (BW0.out.trans (E1.mono BW0.out.size))
  have OA_1 := Lib.hid OA
  clear hb E1 BW0 OA
  go_wp2_with fail
  refine (hS.out _ va (OA_1.out.rd (by omega))).mono ?_
  rintro e w2 ⟨vs, rfl, OS, hb⟩
  have E2 : Below w1.heap.size w1 w2 := below_via hb (by repeat (first | exact Below.refl _ _ | refine Below.alloc ?_ (by simp <;> omega) _ | refine Below.setCell ?_ (by simp <;> omega) _ | refine Below.drew ?_)) (by first | (simp; done) | omega | (simp; omega))
  have sz2 : w1.heap.size ≤ w2.heap.size := E2.size
  have BW2 := Lib.hid (BW1.out.trans (E2.mono BW1.out.size))
  have OS_2 := Lib.hid OS
  clear hb E2 BW1 OA_1 OS
  go_wp2_with fail
  refine (hti.out _ BW2.out).mono ?_
  rintro e w3 ⟨vc, rfl, OC, hb⟩
  have E3 : Below w2.heap.size w2 w3 := below_via hb (by repeat (first | exact Below.refl _ _ | refine Below.alloc ?_ (by simp <;> omega) _ | refine Below.setCell ?_ (by simp <;> omega) _ | refine Below.drew ?_)) (by first | (simp; done) | omega | (simp; omega))
  have sz3 : w2.heap.size ≤ w3.heap.size := E3.size
  have BW3 := Lib.hid (BW2.out.trans (E3.mono BW2.out.size))
  have OS_3 := Lib.hid (OS_2.out.below E3 (by first | exact Nat.le_refl _ | omega))
  have OC_3 := Lib.hid OC
  clear hb E3 BW2 OS_2 OC
  go_wp2_with fail
  refine (hI.out _ vc (OC_3.out.rd (by omega))).mono ?_
  rintro e w4 ⟨vg, rfl, OG, hb⟩
  have E4 : Below w3.heap.size w3 w4 := below_via hb (by repeat (first | exact Below.refl _ _ | refine Below.alloc ?_ (by simp <;> omega) _ | refine Below.setCell ?_ (by simp <;> omega) _ | refine Below.drew ?_)) (by first | (simp; done) | omega | (simp; omega))
  have sz4 : w3.heap.size ≤ w4.heap.size := E4.size
  have BW4 := Lib.hid (BW3.out.trans (E4.mono BW3.out.size))
  have OS_4 := Lib.hid (OS_3.out.below E4 (by first | exact Nat.le_refl _ | omega))
  have OC_4 := Lib.hid (OC_3.out.below E4 (by first | exact Nat.le_refl _ | omega))
  have OG_4 := Lib.hid OG
  clear hb E4 BW3 OS_3 OC_3 OG
  go_wp2_with fail
  refine (heb.out _ vg vs (OG_4.out.rd (by omega)) (OS_4.out.rd (by omega))).mono ?_
  rintro e w5 ⟨rfl, hb⟩
  have E5 : Below w4.heap.size w4 w5 := below_via hb (by repeat (first | exact Below.refl _ _ | refine Below.alloc ?_ (by simp <;> omega) _ | refine Below.setCell ?_ (by simp <;> omega) _ | refine Below.drew ?_)) (by first | (simp; done) | omega | (simp; omega))
  have sz5 : w4.heap.size ≤ w5.heap.size := E5.size
  have BW5 := Lib.hid (BW4.out.trans (E5.mono BW4.out.size))
  have OS_5 := Lib.hid (OS_4.out.below E5 (by first | exact Nat.le_refl _ | omega))
  have OC_5 := Lib.hid (OC_4.out.below E5 (by first | exact Nat.le_refl _ | omega))
  have OG_5 := Lib.hid (OG_4.out.below E5 (by first | exact Nat.le_refl _ | omega))
  clear hb E5 BW4 OS_4 OC_4 OG_4
  go_wp2_with fail
  refine (hti.out _ BW5.out).mono ?_
  rintro e w6 ⟨ve, rfl, OE, hb⟩
  have E6 : Below w5.heap.size w5 w6 := below_via hb (by repeat (first | exact Below.refl _ _ | refine Below.alloc ?_ (by simp <;> omega) _ | refine Below.setCell ?_ (by simp <;> omega) _ | refine Below.drew ?_)) (by first | (simp; done) | omega | (simp; omega))
  have sz6 : w5.heap.size ≤ w6.heap.size := E6.size
  have BW6 := Lib.hid (BW5.out.trans (E6.mono BW5.out.size))
  have OS_6 := Lib.hid (OS_5.out.below E6 (by first | exact Nat.le_refl _ | omega))
  have OC_6 := Lib.hid (OC_5.out.below E6 (by first | exact Nat.le_refl _ | omega))
  have OG_6 := Lib.hid (OG_5.out.below E6 (by first | exact Nat.le_refl _ | omega))
  have OE_6 := Lib.hid OE
  clear hb E6 BW5 OS_5 OC_5 OG_5 OE
  go_wp2_with fail
  refine (hei.out _ vc ve (OC_6.out.rd (by omega)) (OE_6.out.rd (by omega))).mono ?_
  rintro e w7 ⟨rfl, hb⟩
  have E7 : Below w6.heap.size w6 w7 := below_via hb (by repeat (first | exact Below.refl _ _ | refine Below.alloc ?_ (by simp <;> omega) _ | refine Below.setCell ?_ (by simp <;> omega) _ | refine Below.drew ?_)) (by first | (simp; done) | omega | (simp; omega))
  have sz7 : w6.heap.size ≤ w7.heap.size := E7.size
  have BW7 := Lib.hid (BW6.out.trans (E7.mono BW6.out.size))
  have OS_7 := Lib.hid (OS_6.out.below E7 (by first | exact Nat.le_refl _ | omega))
  have OC_7 := Lib.hid (OC_6.out.below E7 (by first | exact Nat.le_refl _ | omega))
  have OG_7 := Lib.hid (OG_6.out.below E7 (by first | exact Nat.le_refl _ | omega))
  clear hb E7 BW6 OS_6 OC_6 OG_6 OE_6
  go_wp2_with fail
  refine (hmi.out _ _ _ vc OC_7.out).mono ?_
  rintro e w8 ⟨rfl, hr, hb⟩
  have T8 := (Touch.of_below (by repeat (first | exact Below.refl _ _ | refine Below.alloc ?_ (by simp <;> omega) _ | refine Below.setCell ?_ (by simp <;> omega) _ | refine Below.drew ?_))).trans hb
  have sz8 : w7.heap.size ≤ w8.heap.size := T8.size
  have BW8 := Lib.hid (BW7.out.trans (T8.below (by have := BW7.out.size; omega) (by have := BW7.out.size; omega)))
  have OS_8 := Lib.hid (OS_7.out.touch T8 (by omega) (by omega))
  have OC_8 := Lib.hid hr
  have OG_8 := Lib.hid (OG_7.out.touch T8 (by omega) (by omega))
  clear hb hr T8 BW7 OS_7 OC_7 OG_7
  clear OC_8
  go_wp2_with fail
  refine (heb.out _ vg vs (OG_8.out.rd (by omega)) (OS_8.out.rd (by omega))).mono ?_
  rintro e w9 ⟨rfl, hb⟩
  have E9 : Below w8.heap.size w8 w9 := below_via hb (by repeat (first | exact Below.refl _ _ | refine Below.alloc ?_ (by simp <;> omega) _ | refine Below.setCell ?_ (by simp <;> omega) _ | refine Below.drew ?_)) (by first | (simp; done) | omega | (simp; omega))
  have sz9 : w8.heap.size ≤ w9.heap.size := E9.size
  have BW9 := Lib.hid (BW8.out.trans (E9.mono BW8.out.size))
  have OS_9 := Lib.hid (OS_8.out.below E9 (by first | exact Nat.le_refl _ | omega))
  have OG_9 := Lib.hid (OG_8.out.below E9 (by first | exact Nat.le_refl _ | omega))
  clear hb E9 BW8 OS_8 OG_8
  go_wp2_with fail
  refine (hmb.out _ _ _ vg OG_9.out).mono ?_
  rintro e w10 ⟨rfl, hr, hb⟩
  have T10 := (Touch.of_below (by repeat (first | exact Below.refl _ _ | refine Below.alloc ?_ (by simp <;> omega) _ | refine Below.setCell ?_ (by simp <;> omega) _ | refine Below.drew ?_))).trans hb
  have sz10 : w9.heap.size ≤ w10.heap.size := T10.size
  have BW10 := Lib.hid (BW9.out.trans (T10.below (by have := BW9.out.size; omega) (by have := BW9.out.size; omega)))
  have OS_10 := Lib.hid (OS_9.out.touch T10 (by omega) (by omega))
  have OG_10 := Lib.hid hr
  clear hb hr T10 BW9 OS_9 OG_9
  go_wp2_with fail
  refine (hhb.out _ vg (OG_10.out.rd (by omega))).mono ?_
  rintro e w11 ⟨rfl, hb⟩
  have E11 : Below w10.heap.size w10 w11 := below_via hb (by repeat (first | exact Below.refl _ _ | refine Below.alloc ?_ (by simp <;> omega) _ | refine Below.setCell ?_ (by simp <;> omega) _ | refine Below.drew ?_)) (by first | (simp; done) | omega | (simp; omega))
  have sz11 : w10.heap.size ≤ w11.heap.size := E11.size
  have BW11 := Lib.hid (BW10.out.trans (E11.mono BW10.out.size))
  have OS_11 := Lib.hid (OS_10.out.below E11 (by first | exact Nat.le_refl _ | omega))
  have OG_11 := Lib.hid (OG_10.out.below E11 (by first | exact Nat.le_refl _ | omega))
  clear hb E11 BW10 OS_10 OG_10
  go_wp2_with fail
  refine (hti.out _ BW11.out).mono ?_
  rintro e w12 ⟨vh, rfl, OH, hb⟩
  have E12 : Below w11.heap.size w11 w12 := below_via hb (by repeat (first | exact Below.refl _ _ | refine Below.alloc ?_ (by simp <;> omega) _ | refine Below.setCell ?_ (by simp <;> omega) _ | refine Below.drew ?_)) (by first | (simp; done) | omega | (simp; omega))
  have sz12 : w11.heap.size ≤ w12.heap.size := E12.size
  have BW12 := Lib.hid (BW11.out.trans (E12.mono BW11.out.size))
  have OS_12 := Lib.hid (OS_11.out.below E12 (by first | exact Nat.le_refl _ | omega))
  have OG_12 := Lib.hid (OG_11.out.below E12 (by first | exact Nat.le_refl _ | omega))
  have OH_12 := Lib.hid OH
  clear hb E12 BW11 OS_11 OG_11 OH
  go_wp2_with fail
  refine (hI.out _ vh (OH_12.out.rd (by omega))).mono ?_
  rintro e w13 ⟨vk, rfl, OK, hb⟩
  have E13 : Below w12.heap.size w12 w13 := below_via hb (by repeat (first | exact Below.refl _ _ | refine Below.alloc ?_ (by simp <;> omega) _ | refine Below.setCell ?_ (by simp <;> omega) _ | refine Below.drew ?_)) (by first | (simp; done) | omega | (simp; omega))
  have sz13 : w12.heap.size ≤ w13.heap.size := E13.size
  have BW13 := Lib.hid (BW12.out.trans (E13.mono BW12.out.size))
  have OS_13 := Lib.hid (OS_12.out.below E13 (by first | exact Nat.le_refl _ | omega))
  have OG_13 := Lib.hid (OG_12.out.below E13 (by first | exact Nat.le_refl _ | omega))
  have OK_13 := Lib.hid OK
  clear hb E13 BW12 OS_12 OG_12 OH_12 OK
  go_wp2_with fail
  refine (heb.out _ vk vs (OK_13.out.rd (by omega)) (OS_13.out.rd (by omega))).mono ?_
  rintro e w14 ⟨rfl, hb⟩
  have E14 : Below w13.heap.size w13 w14 := below_via hb (by repeat (first | exact Below.refl _ _ | refine Below.alloc ?_ (by simp <;> omega) _ | refine Below.setCell ?_ (by simp <;> omega) _ | refine Below.drew ?_)) (by first | (simp; done) | omega | (simp; omega))
  have sz14 : w13.heap.size ≤ w14.heap.size := E14.size
  have BW14 := Lib.hid (BW13.out.trans (E14.mono BW13.out.size))
  have OG_14 := Lib.hid (OG_13.out.below E14 (by first | exact Nat.le_refl _ | omega))
  clear hb E14 BW13 OS_13 OG_13 OK_13
  go_wp2_with fail
  refine (hhb.out _ vg (OG_14.out.rd (by omega))).mono ?_
  rintro e w15 ⟨rfl, hb⟩
  have E15 : Below w14.heap.size w14 w15 := below_via hb (by repeat (first | exact Below.refl _ _ | refine Below.alloc ?_ (by simp <;> omega) _ | refine Below.setCell ?_ (by simp <;> omega) _ | refine Below.drew ?_)) (by first | (simp; done) | omega | (simp; omega))
  have sz15 : w14.heap.size ≤ w15.heap.size := E15.size
  have BW15 := Lib.hid (BW14.out.trans (E15.mono BW14.out.size))
  clear hb E15 BW14 OG_14
  go_wp2_with fail
  go_ret
  exact ⟨rfl, BW15.out⟩

/-! The row's step. -/
theorem own : ownKnob Try.prog.godebug = none := by kernel_rfl
theorem laidOut : laidOutB Try.prog = true := by kernel_rfl
set_option maxRecDepth 100000 in
theorem lifted (os : Os) (started : os.Started) (H : Type) (enc : TypeId × Value → H) :
    ReturnsInHanded {} Try.checked os 7 .any (Rows.fnExactLaySpec.pre6 enc Try.prog Try.f7 Rows.fnExactLayRow.domain false) (Rows.fnExactLaySpec.post enc Try.prog Try.f7 false true false false) := by
  refine returnsInHanded_of_change (C := Try.checked) own started (by kernel_rfl) Try.func7
    (ChangeSpec.witness6 (enc := enc) (C := Try.checked) false ⟨#[], #[.slice none 0 0], []⟩ 8 (by kernel_rfl) (by kernel_rfl) (by kernel_rfl) (by kernel_rfl)) ?_
  intro W base args ds gs before hval0 hW hcnd _
  have hval : ∀ (j : Nat) t v, Try.f7.params[j]? = some t → args[j]? = some v → Value.okWide Try.prog W .any base t v := hval0
  have hW' := hW
  obtain ⟨p, q, hA0, hV, rfl, hfz, hnd⟩ := hW
  have hA : DataW.TrodAll enc Try.prog W 0 (fun _ => true) true Try.f7.params.toList args.toList ds p := hA0
  rw [Try.params7] at hA hval
  obtain ⟨v0, vs0, d0, ds0, p0, q0, hargs, rfl, rfl, h0, r0⟩ := trodAll_cons hA
  obtain ⟨rfl, rfl, rfl⟩ := trodAll_nil r0
  obtain rfl : args = #[v0] := by cases args; simp_all
  obtain ⟨rfl, rfl⟩ := trodVars_none hV
  have k0 := h0
  have lt0 : ∀ x ∈ p0, x.block < W.heap.size := by obtain ⟨m, hm⟩ := k0; exact DataW.trod_lt m _ _ _ hm
  obtain ⟨sp0, n0, c0, rfl⟩ := okWide_slice Try.underlying35 (hval 0 35 v0 rfl rfl)
  obtain ⟨z0, cm0, fl0⟩ := ints_openV h0
  clear hA0 hval0
  refine (walk _ n0 z0 W cm0 fl0).mono fun e W' ⟨he, bel⟩ => ?_
  subst he
  exact ⟨_, rfl, _, _, _, [], _, [], hW', trodAll_mk1 (shut_bool Try.underlying4 _), (trodAll_cons_mk (Below.trod laidOut (by kernel_rfl) (of_decide_eq_true (by kernel_rfl)) k0 bel lt0) trodAll_mk0), rfl, bel.frame _, fun h => by cases h⟩

theorem over : Rows.fnExactLayRow.holds Try.pinned (OpenSpec.ofChange Rows.fnExactLaySpec) :=
  OpenClaim.holds_of_wide 7 Try.f7 rfl rfl rfl rfl rfl rfl rfl ⟨rfl, rfl, rfl, rfl, rfl⟩ rfl rfl rfl rfl rfl (by kernel_rfl) Try.func7 (by kernel_rfl)
    (of_decide_eq_true (by kernel_rfl)) (by unfold Func.isWrapper; first | (rw [if_pos (by decide +kernel)]; kernel_rfl) | (rw [if_neg (by decide +kernel)]; exact ⟨rfl, rfl⟩))
    (fun os started H enc _ => lifted os started H enc)

/-- The statement. -/
theorem proved : Rows.FnExactLaySaid := over
#print axioms proved
end Go.Proofs.Ytnkhjlpeeljelaa.fnExactLay
