/- For all arguments the exact law of RoomFor returns true, and the arguments read as before. No condition. -/
import Derived.Test.YtobcgidakbbhpabRows
import Derived.Test.YtobcgidakbbhpabOpenV
import Derived.Test.YtobcgidakbbhpabBeltLawV
import Derived.Test.YtobcgidakbbhpabToInts2
import Derived.Test.YtobcgidakbbhpabIntEq
import Derived.Test.YtobcgidakbbhpabRoomV
import Derived.Deep.CutRange
import Derived.Deep.RegionWith
import Derived.OpenShut
import Derived.ChangeOld
import Derived.Lib.SmallJoins
namespace Go.Proofs.Ytobcgidakbbhpab.fnExactRoomFor
open Go.ChangeShapes Go.WideShapes Go.ChangeAt Go.RowKit
set_option linter.unusedVariables false

set_option maxRecDepth 100000 in
set_option maxHeartbeats 4000000 in
theorem walk (L G : Int) (H : Bool) (p0 : Option Addr) (c0 : Nat) (n0 : Nat) (z0 : Nat → Int) (v1 : Value) (n1 : Nat) (z1 : Nat → Int) (w : World) (m0 : n0 ≤ maxLen) (r0 : Rd w (.slice p0 n0 c0) n0 (n0 * 3) z0) (wL : (Lit.int .i64 L).wf = true) (wG : (Lit.int .i64 G).wf = true) (m1 : n1 ≤ maxLen) (r1 : Rd w v1 n1 (n1) z1) :
    Calls Try.prog 5 #[.agg #[.int .i64 L, .int .i64 G, .bool H, (.slice p0 n0 c0)], v1] w fun e w' => e = .returned (.bool true) ∧ Below w.heap.size w w' := by
  have BW := Lib.hid (Below.refl w.heap.size w)
  have R0 := Lib.hid r0
  clear r0
  have R1 := Lib.hid r1
  clear r1
  by_cases hn1 : n1 ≤ 1048576
  rotate_left
  · have hd1 : decide ((1048576 : Int) < (n1 : Int)) = true := decide_eq_true (by omega)
    obtain ⟨pp1, pc1, pg1, po1, rfl, -, -⟩ := R1.out
    clear R1
    go_enter Try.func5, Try.ntmps5
    go_wp2_with fail
    go_ret
    exact ⟨rfl, by repeat (first | exact Below.refl _ _ | refine Below.alloc ?_ (by simp <;> omega) _ | refine Below.drew ?_)⟩
  have hd1 : decide ((1048576 : Int) < (n1 : Int)) = false := decide_eq_false (by omega)
  have hN1 : n1 ≤ 1048576 := hn1
  obtain ⟨pp1, pc1, pg1, po1, rfl, hpc1, hpf1⟩ := R1.out
  clear R1
  have R1 : Hid (Rd w (.slice pp1 n1 pc1) n1 n1 z1) := ⟨pp1, pc1, pg1, po1, rfl, hpc1, hpf1⟩
  clear hpc1 hpf1
  have hsz0 := Lib.hid (fun W (hW : Below w.heap.size w W) => szBelt_v n0 (.slice p0 n0 c0) (1048576) (by omega) m0 (n0 * 3) z0 L G H W (R0.out.later hW))
  by_cases hn0 : n0 ≤ 1048576
  rotate_left
  · simp only [if_neg hn0] at hsz0
    go_enter Try.func5, Try.ntmps5
    go_wp2_with fail
    refine (hsz0.out _ (by repeat (first | exact Below.refl _ _ | refine Below.alloc ?_ (by simp <;> omega) _ | refine Below.drew ?_))).mono ?_
    rintro e wz ⟨rfl, hbz⟩
    have hbz := below_via hbz (B := w.heap.size) (w := w) (by repeat (first | exact Below.refl _ _ | refine Below.alloc ?_ (by simp <;> omega) _ | refine Below.drew ?_)) (by simp <;> omega)
    go_wp2_with fail
    go_ret
    exact ⟨rfl, hbz⟩
  simp only [if_pos hn0] at hsz0
  have hN0 : n0 ≤ 1048576 := by omega
  obtain ⟨I0, hS, hI⟩ : ∃ (I0 : Int), Hid (∀ (W : World) (up0 : Option Addr) (uc0 : Nat) (u1 : Value), Rd W (.slice up0 n0 uc0) n0 (n0 * 3) z0 → Rd W u1 n1 (n1) z1 → Calls Try.prog 29 #[.agg #[.int .i64 L, .int .i64 G, .bool H, (.slice up0 n0 uc0)], u1] W fun e w' => e = .returned (.int .i64 I0) ∧ Below W.heap.size W w') ∧ Hid (∀ (W : World) (up0 : Option Addr) (uc0 : Nat) (u1 : Value), Rd W (.slice up0 n0 uc0) n0 (n0 * 3) z0 → Rd W u1 n1 (n1) z1 → Calls Try.prog 31 #[.agg #[.int .i64 L, .int .i64 G, .bool H, (.slice up0 n0 uc0)], u1] W fun e w' => e = .returned (.int .i64 I0) ∧ Below W.heap.size W w') := ⟨rmB L G n0 z0 n1 z1, fun W up0 uc0 u1 h0 h1 => sRoom_v n0 hN0 z0 up0 uc0 L G H n1 hN1 z1 u1 W h0 h1, fun W up0 uc0 u1 h0 h1 => iRoom_v n0 hN0 z0 up0 uc0 L G H n1 hN1 z1 u1 W h0 h1⟩
  go_enter Try.func5, Try.ntmps5
  have hcon := Lib.hid (fun W (hW : Below w.heap.size w W) => hsz0.out W (BW.out.trans (hW.mono BW.out.size)))
  go_wp2_with fail
  refine (hcon.out _ (by repeat (first | exact Below.refl _ _ | refine Below.alloc ?_ (by simp <;> omega) _ | refine Below.drew ?_))).mono ?_
  clear hcon
  rintro e w1 ⟨rfl, hb⟩
  have cc : Below w.heap.size w w1 := below_via hb (by repeat (first | exact Below.refl _ _ | refine Below.alloc ?_ (by simp <;> omega) _ | refine Below.drew ?_)) (by simp <;> omega)
  have szw1 : w.heap.size + 1 ≤ w1.heap.size := by have := hb.size; simp at this; omega
  have XA0 : Hid (w1.heap[w.heap.size]? = some (.cells #[.int .i64 L, .int .i64 G, .bool H, .slice p0 n0 c0] 24 (0, 0))) := (hb.block (w.heap.size) (by simp <;> omega)).trans (heap_new _ _ _ (by simp))
  have BV := Lib.hid (BW.out.trans (cc.mono (by have := BW.out.size; omega)))
  clear BW cc hb
  have BW := BV
  clear BV
  clear hsz0
  obtain ⟨xA00, xA01, xA02, xA03, -, -, -, -⟩ := cells4 XA0.out
  have lA0 : w.heap.size < w1.heap.size := by omega
  have mA0 : w1.heap.size ≠ w.heap.size := by omega
  have hcon := Lib.hid (fun W (hW : Below w1.heap.size w1 W) => toBelt_v n0 hN0 z0 (.slice p0 n0 c0) L G H W (R0.out.later (BW.out.trans (hW.mono (by have := BW.out.size; omega)))))
  go_wp2_with fail
  refine (hcon.out _ (by repeat (first | exact Below.refl _ _ | refine Below.alloc ?_ (by simp <;> omega) _ | refine Below.drew ?_))).mono ?_
  clear hcon
  rintro e w2 ⟨pA0, cA0, rfl, hr, hb⟩
  clear xA00 xA01 xA02 xA03 lA0 mA0
  have cc : Below w1.heap.size w1 w2 := below_via hb (by repeat (first | exact Below.refl _ _ | refine Below.alloc ?_ (by simp <;> omega) _ | refine Below.drew ?_)) (by simp <;> omega)
  have szw2 : w1.heap.size ≤ w2.heap.size := cc.size
  have YA0 := Lib.hid ((cc.block (w.heap.size) (by omega)).trans XA0.out)
  clear XA0
  have XA0 := YA0
  clear YA0
  have BV := Lib.hid (BW.out.trans (cc.mono (by have := BW.out.size; omega)))
  clear BW cc hb
  have BW := BV
  clear BV
  have OA0 := Lib.hid (hr.wide (show w1.heap.size ≤ _ by simp) (Nat.le_refl _))
  clear hr
  obtain ⟨xA00, xA01, xA02, xA03, -, -, -, -⟩ := cells4 XA0.out
  have lA0 : w.heap.size < w2.heap.size := by omega
  have mA0 : w2.heap.size ≠ w.heap.size := by omega
  have hcon := Lib.hid (fun W (hW : Below w2.heap.size w2 W) => toIntS_v n1 hN1 z1 (.slice pp1 n1 pc1) W (R1.out.later (BW.out.trans (hW.mono (by have := BW.out.size; omega)))))
  go_wp2_with fail
  refine (hcon.out _ (by repeat (first | exact Below.refl _ _ | refine Below.alloc ?_ (by simp <;> omega) _ | refine Below.drew ?_))).mono ?_
  clear hcon
  rintro e w3 ⟨A1, rfl, hr, hb⟩
  clear xA00 xA01 xA02 xA03 lA0 mA0
  have cc : Below w2.heap.size w2 w3 := below_via hb (by repeat (first | exact Below.refl _ _ | refine Below.alloc ?_ (by simp <;> omega) _ | refine Below.drew ?_)) (by simp <;> omega)
  have szw3 : w2.heap.size ≤ w3.heap.size := cc.size
  have YA0 := Lib.hid ((cc.block (w.heap.size) (by omega)).trans XA0.out)
  clear XA0
  have XA0 := YA0
  clear YA0
  have PA0 := Lib.hid (OA0.out.below cc (by omega))
  have BV := Lib.hid (BW.out.trans (cc.mono (by have := BW.out.size; omega)))
  clear OA0 BW cc hb
  have OA0 := PA0
  clear PA0
  have BW := BV
  clear BV
  have OA1 := Lib.hid (hr.wide (show w2.heap.size ≤ _ by simp) (Nat.le_refl _))
  clear hr
  obtain ⟨xA00, xA01, xA02, xA03, -, -, -, -⟩ := cells4 XA0.out
  have lA0 : w.heap.size < w3.heap.size := by omega
  have mA0 : w3.heap.size ≠ w.heap.size := by omega
  have hcon := Lib.hid (fun W (hW : Below w3.heap.size w3 W) => hS.out W pA0 cA0 A1 ((OA0.out.below hW (by omega)).rd (by have := hW.size; omega)) ((OA1.out.below hW (by omega)).rd (by have := hW.size; omega)))
  go_wp2_with fail
  refine (hcon.out _ (by repeat (first | exact Below.refl _ _ | refine Below.alloc ?_ (by simp <;> omega) _ | refine Below.drew ?_))).mono ?_
  clear hcon
  rintro e w4 ⟨rfl, hb⟩
  clear xA00 xA01 xA02 xA03 lA0 mA0
  have cc : Below w3.heap.size w3 w4 := below_via hb (by repeat (first | exact Below.refl _ _ | refine Below.alloc ?_ (by simp <;> omega) _ | refine Below.drew ?_)) (by simp <;> omega)
  have szw4 : w3.heap.size ≤ w4.heap.size := cc.size
  have YA0 := Lib.hid ((cc.block (w.heap.size) (by omega)).trans XA0.out)
  clear XA0
  have XA0 := YA0
  clear YA0
  have BV := Lib.hid (BW.out.trans (cc.mono (by have := BW.out.size; omega)))
  clear OA0 OA1 BW cc hb
  have BW := BV
  clear BV
  obtain ⟨xA00, xA01, xA02, xA03, -, -, -, -⟩ := cells4 XA0.out
  have lA0 : w.heap.size < w4.heap.size := by omega
  have mA0 : w4.heap.size ≠ w.heap.size := by omega
  have hcon := Lib.hid (fun W (hW : Below w4.heap.size w4 W) => toBelt_v n0 hN0 z0 (.slice p0 n0 c0) L G H W (R0.out.later (BW.out.trans (hW.mono (by have := BW.out.size; omega)))))
  go_wp2_with fail
  refine (hcon.out _ (by repeat (first | exact Below.refl _ _ | refine Below.alloc ?_ (by simp <;> omega) _ | refine Below.drew ?_))).mono ?_
  clear hcon
  rintro e w5 ⟨pX0, cX0, rfl, hr, hb⟩
  clear xA00 xA01 xA02 xA03 lA0 mA0
  have cc : Below w4.heap.size w4 w5 := below_via hb (by repeat (first | exact Below.refl _ _ | refine Below.alloc ?_ (by simp <;> omega) _ | refine Below.drew ?_)) (by simp <;> omega)
  have szw5 : w4.heap.size ≤ w5.heap.size := cc.size
  have YA0 := Lib.hid ((cc.block (w.heap.size) (by omega)).trans XA0.out)
  clear XA0
  have XA0 := YA0
  clear YA0
  have BV := Lib.hid (BW.out.trans (cc.mono (by have := BW.out.size; omega)))
  clear BW cc hb
  have BW := BV
  clear BV
  have OX0 := Lib.hid (hr.wide (show w4.heap.size ≤ _ by simp) (Nat.le_refl _))
  clear hr
  obtain ⟨xA00, xA01, xA02, xA03, -, -, -, -⟩ := cells4 XA0.out
  have lA0 : w.heap.size < w5.heap.size := by omega
  have mA0 : w5.heap.size ≠ w.heap.size := by omega
  have hcon := Lib.hid (fun W (hW : Below w5.heap.size w5 W) => toIntS_v n1 hN1 z1 (.slice pp1 n1 pc1) W (R1.out.later (BW.out.trans (hW.mono (by have := BW.out.size; omega)))))
  go_wp2_with fail
  refine (hcon.out _ (by repeat (first | exact Below.refl _ _ | refine Below.alloc ?_ (by simp <;> omega) _ | refine Below.drew ?_))).mono ?_
  clear hcon
  rintro e w6 ⟨X1, rfl, hr, hb⟩
  clear xA00 xA01 xA02 xA03 lA0 mA0
  have cc : Below w5.heap.size w5 w6 := below_via hb (by repeat (first | exact Below.refl _ _ | refine Below.alloc ?_ (by simp <;> omega) _ | refine Below.drew ?_)) (by simp <;> omega)
  have szw6 : w5.heap.size + 1 ≤ w6.heap.size := by have := hb.size; simp at this; omega
  have YA0 := Lib.hid ((cc.block (w.heap.size) (by omega)).trans XA0.out)
  have XX0 : Hid (w6.heap[w5.heap.size]? = some (.cells #[.int .i64 L, .int .i64 G, .bool H, .slice pX0 n0 cX0] 28 (0, 0))) := (hb.block (w5.heap.size) (by simp <;> omega)).trans (heap_new _ _ _ (by simp))
  clear XA0
  have XA0 := YA0
  clear YA0
  have PX0 := Lib.hid (OX0.out.below cc (by omega))
  have BV := Lib.hid (BW.out.trans (cc.mono (by have := BW.out.size; omega)))
  clear OX0 BW cc hb
  have OX0 := PX0
  clear PX0
  have BW := BV
  clear BV
  have OX1 := Lib.hid (hr.wide (show w5.heap.size + 1 ≤ _ by simp) (Nat.le_refl _))
  clear hr
  obtain ⟨xA00, xA01, xA02, xA03, -, -, -, -⟩ := cells4 XA0.out
  have lA0 : w.heap.size < w6.heap.size := by omega
  have mA0 : w6.heap.size ≠ w.heap.size := by omega
  obtain ⟨xX00, xX01, xX02, xX03, -, -, -, -⟩ := cells4 XX0.out
  have lX0 : w5.heap.size < w6.heap.size := by omega
  have mX0 : w6.heap.size ≠ w5.heap.size := by omega
  have hcon := Lib.hid (fun W (hW : Below w6.heap.size w6 W) => hI.out W pX0 cX0 X1 ((OX0.out.below hW (by omega)).rd (by have := hW.size; omega)) ((OX1.out.below hW (by omega)).rd (by have := hW.size; omega)))
  go_wp2_with fail
  refine (hcon.out _ (by repeat (first | exact Below.refl _ _ | refine Below.alloc ?_ (by simp <;> omega) _ | refine Below.drew ?_))).mono ?_
  clear hcon
  rintro e w7 ⟨rfl, hb⟩
  clear xA00 xA01 xA02 xA03 xX00 xX01 xX02 xX03 lA0 mA0 lX0 mX0
  have cc : Below w6.heap.size w6 w7 := below_via hb (by repeat (first | exact Below.refl _ _ | refine Below.alloc ?_ (by simp <;> omega) _ | refine Below.drew ?_)) (by simp <;> omega)
  have szw7 : w6.heap.size ≤ w7.heap.size := cc.size
  have YA0 := Lib.hid ((cc.block (w.heap.size) (by omega)).trans XA0.out)
  have YX0 := Lib.hid ((cc.block (w5.heap.size) (by omega)).trans XX0.out)
  clear XA0
  have XA0 := YA0
  clear YA0
  clear XX0
  have XX0 := YX0
  clear YX0
  have PX0 := Lib.hid (OX0.out.below cc (by omega))
  have PX1 := Lib.hid (OX1.out.below cc (by omega))
  have BV := Lib.hid (BW.out.trans (cc.mono (by have := BW.out.size; omega)))
  clear OX0 OX1 BW cc hb
  have OX0 := PX0
  clear PX0
  have OX1 := PX1
  clear PX1
  have BW := BV
  clear BV
  obtain ⟨xA00, xA01, xA02, xA03, -, -, -, -⟩ := cells4 XA0.out
  have lA0 : w.heap.size < w7.heap.size := by omega
  have mA0 : w7.heap.size ≠ w.heap.size := by omega
  obtain ⟨xX00, xX01, xX02, xX03, -, -, -, -⟩ := cells4 XX0.out
  have lX0 : w5.heap.size < w7.heap.size := by omega
  have mX0 : w7.heap.size ≠ w5.heap.size := by omega
  have hto := Lib.hid (fun W (hW : Below w7.heap.size w7 W) => toBelt_v n0 hN0 z0 (.slice p0 n0 c0) L G H W (R0.out.later (BW.out.trans (hW.mono (by have := BW.out.size; omega)))))
  have heq := Lib.hid (fun W (hW : Below w7.heap.size w7 W) (p7 : Option Addr) (c7 : Nat) (h7 : Rd W (.slice p7 n0 c7) n0 (n0 * 3) z0) => eqBelt_v n0 hN0 z0 (.slice pX0 n0 cX0) (.slice p7 n0 c7) L G H W ((OX0.out.below hW (by omega)).rd (by have := hW.size; omega)) h7)
  go_upto_region 13 with fail
  go_cut [37] from 33 to 37 (fun sr wx => sr = .bool false ∧ Below w7.heap.size w7 wx)
  case first =>
    go_region_with (first | (go_at_call 17; refine (hto.out _ (by repeat (first | exact Below.refl _ _ | refine Below.alloc ?_ (by simp <;> omega) _ | refine Below.drew ?_))).mono ?_; rintro e w8 ⟨p7, c7, rfl, hr7, hb7⟩; have xbX07 := (hb7.block (w5.heap.size) (by simp <;> omega)).trans XX0.out; obtain ⟨yX00, yX01, yX02, yX03, -, -, -, -⟩ := cells4 xbX07; clear xbX07) | (go_at_call 19; refine (heq.out _ (below_via hb7 (by repeat (first | exact Below.refl _ _ | refine Below.alloc ?_ (by simp <;> omega) _ | refine Below.drew ?_)) (by simp <;> omega)) p7 c7 (hr7.rd (Nat.le_refl _))).mono ?_; rintro e w9 ⟨rfl, hb8⟩))
    all_goals
      have b7 : Below w7.heap.size w7 w8 := below_via hb7 (by repeat (first | exact Below.refl _ _ | refine Below.alloc ?_ (by simp <;> omega) _ | refine Below.drew ?_)) (by simp <;> omega)
      have b8 : Below w7.heap.size w7 w9 := b7.trans (hb8.mono b7.size)
      go_wp2_with fail
      go_meet
      exact ⟨rfl, b8⟩
  case rest =>
    obtain ⟨rfl, hb⟩ := hcut
    clear heq hto
    clear xA00 xA01 xA02 xA03 xX00 xX01 xX02 xX03 lA0 mA0 lX0 mX0
    obtain ⟨w10, rfl⟩ : ∃ x, x = wc := ⟨_, rfl⟩
    have cc : Below w7.heap.size w7 w10 := hb
    have szw10 : w7.heap.size ≤ w10.heap.size := cc.size
    have YA0 := Lib.hid ((cc.block (w.heap.size) (by omega)).trans XA0.out)
    have YX0 := Lib.hid ((cc.block (w5.heap.size) (by omega)).trans XX0.out)
    clear XA0
    have XA0 := YA0
    clear YA0
    clear XX0
    have XX0 := YX0
    clear YX0
    have PX0 := Lib.hid (OX0.out.below cc (by omega))
    have PX1 := Lib.hid (OX1.out.below cc (by omega))
    have BV := Lib.hid (BW.out.trans (cc.mono (by have := BW.out.size; omega)))
    clear OX0 OX1 BW cc hb
    have OX0 := PX0
    clear PX0
    have OX1 := PX1
    clear PX1
    have BW := BV
    clear BV
    obtain ⟨xA00, xA01, xA02, xA03, -, -, -, -⟩ := cells4 XA0.out
    have lA0 : w.heap.size < w10.heap.size := by omega
    have mA0 : w10.heap.size ≠ w.heap.size := by omega
    obtain ⟨xX00, xX01, xX02, xX03, -, -, -, -⟩ := cells4 XX0.out
    have lX0 : w5.heap.size < w10.heap.size := by omega
    have mX0 : w10.heap.size ≠ w5.heap.size := by omega
    have hcon := Lib.hid (fun W (hW : Below w10.heap.size w10 W) => toIntS_v n1 hN1 z1 (.slice pp1 n1 pc1) W (R1.out.later (BW.out.trans (hW.mono (by have := BW.out.size; omega)))))
    go_wp2_with fail
    refine (hcon.out _ (by repeat (first | exact Below.refl _ _ | refine Below.alloc ?_ (by simp <;> omega) _ | refine Below.drew ?_))).mono ?_
    clear hcon
    rintro e w11 ⟨D1, rfl, hr, hb⟩
    clear xA00 xA01 xA02 xA03 xX00 xX01 xX02 xX03 lA0 mA0 lX0 mX0
    have cc : Below w10.heap.size w10 w11 := below_via hb (by repeat (first | exact Below.refl _ _ | refine Below.alloc ?_ (by simp <;> omega) _ | refine Below.drew ?_)) (by simp <;> omega)
    have szw11 : w10.heap.size ≤ w11.heap.size := cc.size
    have YA0 := Lib.hid ((cc.block (w.heap.size) (by omega)).trans XA0.out)
    have YX0 := Lib.hid ((cc.block (w5.heap.size) (by omega)).trans XX0.out)
    clear XA0
    have XA0 := YA0
    clear YA0
    clear XX0
    have XX0 := YX0
    clear YX0
    have PX0 := Lib.hid (OX0.out.below cc (by omega))
    have PX1 := Lib.hid (OX1.out.below cc (by omega))
    have BV := Lib.hid (BW.out.trans (cc.mono (by have := BW.out.size; omega)))
    clear OX0 OX1 BW cc hb
    have OX0 := PX0
    clear PX0
    have OX1 := PX1
    clear PX1
    have BW := BV
    clear BV
    have OD1 := Lib.hid (hr.wide (show w10.heap.size ≤ _ by simp) (Nat.le_refl _))
    clear hr
    obtain ⟨xA00, xA01, xA02, xA03, -, -, -, -⟩ := cells4 XA0.out
    have lA0 : w.heap.size < w11.heap.size := by omega
    have mA0 : w11.heap.size ≠ w.heap.size := by omega
    obtain ⟨xX00, xX01, xX02, xX03, -, -, -, -⟩ := cells4 XX0.out
    have lX0 : w5.heap.size < w11.heap.size := by omega
    have mX0 : w11.heap.size ≠ w5.heap.size := by omega
    have hcon := Lib.hid (fun W (hW : Below w11.heap.size w11 W) => eqIntS_v n1 hN1 (z1) X1 D1 W ((OX1.out.below hW (by omega)).rd (by have := hW.size; omega)) ((OD1.out.below hW (by omega)).rd (by have := hW.size; omega)))
    go_wp2_with fail
    refine (hcon.out _ (by repeat (first | exact Below.refl _ _ | refine Below.alloc ?_ (by simp <;> omega) _ | refine Below.drew ?_))).mono ?_
    clear hcon
    rintro e w12 ⟨rfl, hb⟩
    clear xA00 xA01 xA02 xA03 xX00 xX01 xX02 xX03 lA0 mA0 lX0 mX0
    have cc : Below w11.heap.size w11 w12 := below_via hb (by repeat (first | exact Below.refl _ _ | refine Below.alloc ?_ (by simp <;> omega) _ | refine Below.drew ?_)) (by simp <;> omega)
    have szw12 : w11.heap.size ≤ w12.heap.size := cc.size
    have YA0 := Lib.hid ((cc.block (w.heap.size) (by omega)).trans XA0.out)
    have YX0 := Lib.hid ((cc.block (w5.heap.size) (by omega)).trans XX0.out)
    clear XA0
    have XA0 := YA0
    clear YA0
    clear XX0
    have XX0 := YX0
    clear YX0
    have PX0 := Lib.hid (OX0.out.below cc (by omega))
    have PX1 := Lib.hid (OX1.out.below cc (by omega))
    have PD1 := Lib.hid (OD1.out.below cc (by omega))
    have BV := Lib.hid (BW.out.trans (cc.mono (by have := BW.out.size; omega)))
    clear OX0 OX1 OD1 BW cc hb
    have OX0 := PX0
    clear PX0
    have OX1 := PX1
    clear PX1
    have OD1 := PD1
    clear PD1
    have BW := BV
    clear BV
    clear OD1
    obtain ⟨xA00, xA01, xA02, xA03, -, -, -, -⟩ := cells4 XA0.out
    have lA0 : w.heap.size < w12.heap.size := by omega
    have mA0 : w12.heap.size ≠ w.heap.size := by omega
    obtain ⟨xX00, xX01, xX02, xX03, -, -, -, -⟩ := cells4 XX0.out
    have lX0 : w5.heap.size < w12.heap.size := by omega
    have mX0 : w12.heap.size ≠ w5.heap.size := by omega
    go_wp2_with fail
    go_ret
    exact ⟨rfl, by first | exact BW.out | exact BW.out.drew⟩

/-! The row's step. -/
theorem own : ownKnob Try.prog.godebug = none := by kernel_rfl
theorem laidOut : laidOutB Try.prog = true := by kernel_rfl
set_option maxRecDepth 100000 in
theorem lifted (os : Os) (started : os.Started) (H : Type) (enc : TypeId × Value → H) :
    ReturnsInHanded {} Try.checked os 5 .any (Rows.fnExactRoomForSpec.pre6 enc Try.prog Try.f5 Rows.fnExactRoomForRow.domain false) (Rows.fnExactRoomForSpec.post enc Try.prog Try.f5 false true false false) := by
  refine returnsInHanded_of_change (C := Try.checked) own started (by kernel_rfl) Try.func5
    (ChangeSpec.witness6 (enc := enc) (C := Try.checked) false ⟨#[], #[.agg #[.int .i64 0, .int .i64 0, .bool false, .slice none 0 0], .slice none 0 0], []⟩ 8 (by kernel_rfl) (by kernel_rfl) (by kernel_rfl) (by kernel_rfl)) ?_
  intro W base args ds gs before hval0 hW hcnd _
  have hval : ∀ (j : Nat) t v, Try.f5.params[j]? = some t → args[j]? = some v → Value.okWide Try.prog W .any base t v := hval0
  have hW' := hW
  obtain ⟨p, q, hA0, hV, rfl, hfz, hnd⟩ := hW
  have hA : DataW.TrodAll enc Try.prog W 0 (fun _ => true) true Try.f5.params.toList args.toList ds p := hA0
  rw [Try.params5] at hA hval
  obtain ⟨v0, vs0, d0, ds0, p0, q0, hargs, rfl, rfl, h0, r0⟩ := trodAll_cons hA
  obtain ⟨v1, vs1, d1, ds1, p1, q1, rfl, rfl, rfl, h1, r1⟩ := trodAll_cons r0
  obtain ⟨rfl, rfl, rfl⟩ := trodAll_nil r1
  obtain rfl : args = #[v0, v1] := by cases args; simp_all
  obtain ⟨rfl, rfl⟩ := trodVars_none hV
  have k0 := h0
  have lt0 : ∀ x ∈ p0, x.block < W.heap.size := by obtain ⟨m, hm⟩ := k0; exact DataW.trod_lt m _ _ _ hm
  obtain ⟨cL0, cG0, cH0, cS0, yL0, yG0, yH0, yS0, m0, rfl, -, -, hL0, hG0, hH0, hS0⟩ := Joins.open_agg4 Try.underlying24 (by kernel_rfl) (show Try.prog.cellsOf 24 = 4 by kernel_rfl) (hval 0 24 v0 rfl rfl) h0
  obtain ⟨L0, eL0, -, wL0⟩ := DataW.trod_int Try.underlying3 hL0
  obtain ⟨G0, eG0, -, wG0⟩ := DataW.trod_int Try.underlying3 hG0
  obtain ⟨H0, eH0, -⟩ := DataW.trod_bool Try.underlying4 hH0
  simp only [List.cons.injEq, and_true] at eL0 eG0 eH0
  subst eL0 eG0 eH0
  obtain ⟨ps0, n0, c0, rfl⟩ : ∃ ps n c, cS0 = .slice ps n c := by
    rcases Go.Deep.open_slice Try.underlying22 hS0 with ⟨e, -⟩ | ⟨a, l, c, _, _, _, _, e, -⟩
    · simp at e; exact ⟨_, _, _, e⟩
    · simp at e; exact ⟨_, _, _, e⟩
  obtain ⟨g0, o0, z0, nc0, cm0, fl0, -⟩ := open_rows Try.underlying22 Try.underlying135 (by kernel_rfl) (show Try.prog.cellsOf 135 = 3 by kernel_rfl) rfl (by decide) Try.underlying3 (by kernel_rfl) hS0
  have k1 := h1
  have lt1 : ∀ x ∈ p1, x.block < W.heap.size := by obtain ⟨m, hm⟩ := k1; exact DataW.trod_lt m _ _ _ hm
  obtain ⟨sp1, n1, c1, rfl⟩ := okWide_slice Try.underlying44 (hval 1 44 v1 rfl rfl)
  obtain ⟨z1, cm1, fl1⟩ := ints_openV h1
  clear hA0 hval0
  refine (walk L0 G0 H0 ps0 c0 n0 z0 _ n1 z1 W (Nat.le_trans nc0 cm0) ⟨_, _, _, _, rfl, nc0, fl0⟩ wL0 wG0 cm1 fl1).mono fun e W' ⟨he, bel⟩ => ?_
  subst he
  exact ⟨_, rfl, _, _, _, [], _, [], hW', trodAll_mk1 (shut_bool Try.underlying4 _), (trodAll_cons_mk (Below.trod laidOut (by kernel_rfl) (of_decide_eq_true (by kernel_rfl)) k0 bel lt0) (trodAll_cons_mk (Below.trod laidOut (by kernel_rfl) (of_decide_eq_true (by kernel_rfl)) k1 bel lt1) trodAll_mk0)), rfl, bel.frame _, fun h => by cases h⟩

theorem over : Rows.fnExactRoomForRow.holds Try.pinned (OpenSpec.ofChange Rows.fnExactRoomForSpec) :=
  OpenClaim.holds_of_wide 5 Try.f5 rfl rfl rfl rfl rfl rfl rfl ⟨rfl, rfl, rfl, rfl, rfl⟩ rfl rfl rfl rfl rfl (by kernel_rfl) Try.func5 (by kernel_rfl)
    (of_decide_eq_true (by kernel_rfl)) (by unfold Func.isWrapper; first | (rw [if_pos (by decide +kernel)]; kernel_rfl) | (rw [if_neg (by decide +kernel)]; exact ⟨rfl, rfl⟩))
    (fun os started H enc _ => lifted os started H enc)

/-- The statement. -/
theorem proved : Rows.FnExactRoomForSaid := over
#print axioms proved
end Go.Proofs.Ytobcgidakbbhpab.fnExactRoomFor
