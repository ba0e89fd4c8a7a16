/- For all arguments the exact law of Run returns true, and the arguments read as before. No condition. -/
import Derived.Test.YtobcgidakbbhpabRows
import Derived.Test.YtobcgidakbbhpabOpenV
import Derived.Test.YtobcgidakbbhpabRowExit
import Derived.Test.YtobcgidakbbhpabBeltLawV
import Derived.Test.YtobcgidakbbhpabBeltHeld
import Derived.Test.YtobcgidakbbhpabRunV
import Derived.Deep.CutRange
import Derived.Deep.RegionWith
import Derived.OpenShut
import Derived.ChangeOld
import Derived.Lib.SmallJoins
namespace Go.Proofs.Ytobcgidakbbhpab.fnExactRun
open Go.ChangeShapes Go.WideShapes Go.ChangeAt Go.RowKit
set_option linter.unusedVariables false

set_option maxRecDepth 100000 in
set_option maxHeartbeats 4000000 in
theorem walk (L G : Int) (H : Bool) (p0 : Option Addr) (c0 : Nat) (n0 : Nat) (z0 : Nat → Int) (a1 : Int) (w : World) (m0 : n0 ≤ maxLen) (r0 : Rd w (.slice p0 n0 c0) n0 (n0 * 3) z0) (wL : (Lit.int .i64 L).wf = true) (wG : (Lit.int .i64 G).wf = true) (w1 : (Lit.int .i64 a1).wf = true) :
    Calls Try.prog 3 #[.agg #[.int .i64 L, .int .i64 G, .bool H, (.slice p0 n0 c0)], .int .i64 a1] w fun e w' => e = .returned (.bool true) ∧ Below w.heap.size w w' := by
  have BW := Lib.hid (Below.refl w.heap.size w)
  have R0 := Lib.hid r0
  clear r0
  have hsz0 := Lib.hid (fun W (hW : Below w.heap.size w W) => szBelt_v n0 (.slice p0 n0 c0) (1048576) (by omega) m0 (n0 * 3) z0 L G H W (R0.out.later hW))
  by_cases hn0 : n0 ≤ 1048576
  rotate_left
  · simp only [if_neg hn0] at hsz0
    go_enter Try.func3, Try.ntmps3
    go_wp2_with fail
    refine (hsz0.out _ (by repeat (first | exact Below.refl _ _ | refine Below.alloc ?_ (by simp <;> omega) _ | refine Below.drew ?_))).mono ?_
    rintro e wz ⟨rfl, hbz⟩
    have hbz := below_via hbz (B := w.heap.size) (w := w) (by repeat (first | exact Below.refl _ _ | refine Below.alloc ?_ (by simp <;> omega) _ | refine Below.drew ?_)) (by simp <;> omega)
    go_wp2_with fail
    go_ret
    exact ⟨rfl, hbz⟩
  simp only [if_pos hn0] at hsz0
  have hN0 : n0 ≤ 1048576 := by omega
  obtain ⟨N0, Z0, N1, Z1, hL0, hL1, hS, hI⟩ : ∃ (N0 : Nat) (Z0 : Nat → Int) (N1 : Nat) (Z1 : Nat → Int), N0 ≤ 1048576 ∧ N1 ≤ 1048576 ∧ Hid (∀ (W : World) (up0 : Option Addr) (uc0 : Nat), Rd W (.slice up0 n0 uc0) n0 (n0 * 3) z0 → Calls Try.prog 16 #[.agg #[.int .i64 L, .int .i64 G, .bool H, (.slice up0 n0 uc0)], .int .i64 a1] W fun e w' => ∃ yp0 yc0, ∃ y1, e = .returned (.tuple #[.agg #[.int .i64 L, .int .i64 G, .bool H, (.slice yp0 N0 yc0)], y1]) ∧ Own w' W.heap.size w'.heap.size (.slice yp0 N0 yc0) N0 (N0 * 3) Z0 ∧ Own w' W.heap.size w'.heap.size y1 N1 (N1 * 2) Z1 ∧ Below W.heap.size W w') ∧ Hid (∀ (W : World) (up0 : Option Addr) (uc0 : Nat), Rd W (.slice up0 n0 uc0) n0 (n0 * 3) z0 → Calls Try.prog 18 #[.agg #[.int .i64 L, .int .i64 G, .bool H, (.slice up0 n0 uc0)], .int .i64 a1] W fun e w' => ∃ yp0 yc0, ∃ y1, ∃ M, e = .returned (.tuple #[.agg #[.int .i64 L, .int .i64 G, .bool H, (.slice yp0 N0 yc0)], y1]) ∧ W.heap.size ≤ M ∧ M ≤ w'.heap.size ∧ Own w' W.heap.size M (.slice yp0 N0 yc0) N0 (N0 * 3) Z0 ∧ Own w' M w'.heap.size y1 N1 (N1 * 2) Z1 ∧ Below W.heap.size W w') := ⟨rnN L G H n0 z0 a1, rnZ L G H n0 z0 a1, rnE L G H n0 z0 a1, rnX L G H n0 z0 a1, Nat.le_trans (rnN_le L G H n0 z0 a1) hN0, Nat.le_trans (rnE_le L G H n0 z0 a1) hN0, fun W up0 uc0 h0 => sRun_v n0 hN0 z0 up0 uc0 L G H a1 W h0, fun W up0 uc0 h0 => iRun_v n0 hN0 z0 up0 uc0 L G H a1 W h0⟩
  go_enter Try.func3, Try.ntmps3
  have hcon := Lib.hid (fun W (hW : Below w.heap.size w W) => hsz0.out W (BW.out.trans (hW.mono BW.out.size)))
  go_wp2_with fail
  refine (hcon.out _ (by repeat (first | exact Below.refl _ _ | refine Below.alloc ?_ (by simp <;> omega) _ | refine Below.drew ?_))).mono ?_
  clear hcon
  rintro e w1 ⟨rfl, hb⟩
  have cc : Below w.heap.size w w1 := below_via hb (by repeat (first | exact Below.refl _ _ | refine Below.alloc ?_ (by simp <;> omega) _ | refine Below.drew ?_)) (by simp <;> omega)
  have szw1 : w.heap.size + 1 ≤ w1.heap.size := by have := hb.size; simp at this; omega
  have XA0 : Hid (w1.heap[w.heap.size]? = some (.cells #[.int .i64 L, .int .i64 G, .bool H, .slice p0 n0 c0] 24 (0, 0))) := (hb.block (w.heap.size) (by simp <;> omega)).trans (heap_new _ _ _ (by simp))
  have BV := Lib.hid (BW.out.trans (cc.mono (by have := BW.out.size; omega)))
  clear BW cc hb
  have BW := BV
  clear BV
  clear hsz0
  obtain ⟨xA00, xA01, xA02, xA03, -, -, -, -⟩ := cells4 XA0.out
  have lA0 : w.heap.size < w1.heap.size := by omega
  have mA0 : w1.heap.size ≠ w.heap.size := by omega
  have hcon := Lib.hid (fun W (hW : Below w1.heap.size w1 W) => toBelt_v n0 hN0 z0 (.slice p0 n0 c0) L G H W (R0.out.later (BW.out.trans (hW.mono (by have := BW.out.size; omega)))))
  go_wp2_with fail
  refine (hcon.out _ (by repeat (first | exact Below.refl _ _ | refine Below.alloc ?_ (by simp <;> omega) _ | refine Below.drew ?_))).mono ?_
  clear hcon
  rintro e w2 ⟨pA0, cA0, rfl, hr, hb⟩
  clear xA00 xA01 xA02 xA03 lA0 mA0
  have cc : Below w1.heap.size w1 w2 := below_via hb (by repeat (first | exact Below.refl _ _ | refine Below.alloc ?_ (by simp <;> omega) _ | refine Below.drew ?_)) (by simp <;> omega)
  have szw2 : w1.heap.size ≤ w2.heap.size := cc.size
  have YA0 := Lib.hid ((cc.block (w.heap.size) (by omega)).trans XA0.out)
  clear XA0
  have XA0 := YA0
  clear YA0
  have BV := Lib.hid (BW.out.trans (cc.mono (by have := BW.out.size; omega)))
  clear BW cc hb
  have BW := BV
  clear BV
  have OA0 := Lib.hid (hr.wide (show w1.heap.size ≤ _ by simp) (Nat.le_refl _))
  clear hr
  obtain ⟨xA00, xA01, xA02, xA03, -, -, -, -⟩ := cells4 XA0.out
  have lA0 : w.heap.size < w2.heap.size := by omega
  have mA0 : w2.heap.size ≠ w.heap.size := by omega
  have hcon := Lib.hid (fun W (hW : Below w2.heap.size w2 W) => hS.out W pA0 cA0 ((OA0.out.below hW (by omega)).rd (by have := hW.size; omega)))
  go_wp2_with fail
  refine (hcon.out _ (by repeat (first | exact Below.refl _ _ | refine Below.alloc ?_ (by simp <;> omega) _ | refine Below.drew ?_))).mono ?_
  clear hcon
  rintro e w3 ⟨pS0, cS0, S1, rfl, hr0, hr1, hb⟩
  clear xA00 xA01 xA02 xA03 lA0 mA0
  have cc : Below w2.heap.size w2 w3 := below_via hb (by repeat (first | exact Below.refl _ _ | refine Below.alloc ?_ (by simp <;> omega) _ | refine Below.drew ?_)) (by simp <;> omega)
  have szw3 : w2.heap.size ≤ w3.heap.size := cc.size
  have YA0 := Lib.hid ((cc.block (w.heap.size) (by omega)).trans XA0.out)
  clear XA0
  have XA0 := YA0
  clear YA0
  have BV := Lib.hid (BW.out.trans (cc.mono (by have := BW.out.size; omega)))
  clear OA0 BW cc hb
  have BW := BV
  clear BV
  have OS0 := Lib.hid (hr0.wide (show w2.heap.size ≤ _ by simp) (Nat.le_refl _))
  clear hr0
  have OS1 := Lib.hid (hr1.wide (show w2.heap.size ≤ _ by simp) (Nat.le_refl _))
  clear hr1
  obtain ⟨xA00, xA01, xA02, xA03, -, -, -, -⟩ := cells4 XA0.out
  have lA0 : w.heap.size < w3.heap.size := by omega
  have mA0 : w3.heap.size ≠ w.heap.size := by omega
  have hcon := Lib.hid (fun W (hW : Below w3.heap.size w3 W) => toBelt_v n0 hN0 z0 (.slice p0 n0 c0) L G H W (R0.out.later (BW.out.trans (hW.mono (by have := BW.out.size; omega)))))
  go_wp2_with fail
  refine (hcon.out _ (by repeat (first | exact Below.refl _ _ | refine Below.alloc ?_ (by simp <;> omega) _ | refine Below.drew ?_))).mono ?_
  clear hcon
  rintro e w4 ⟨pX0, cX0, rfl, hr, hb⟩
  clear xA00 xA01 xA02 xA03 lA0 mA0
  have cc : Below w3.heap.size w3 w4 := below_via hb (by repeat (first | exact Below.refl _ _ | refine Below.alloc ?_ (by simp <;> omega) _ | refine Below.drew ?_)) (by simp <;> omega)
  have szw4 : w3.heap.size + 1 ≤ w4.heap.size := by have := hb.size; simp at this; omega
  have YA0 := Lib.hid ((cc.block (w.heap.size) (by omega)).trans XA0.out)
  have XS0 : Hid (w4.heap[w3.heap.size]? = some (.cells #[.int .i64 L, .int .i64 G, .bool H, .slice pS0 N0 cS0] 28 (0, 0))) := (hb.block (w3.heap.size) (by simp <;> omega)).trans (heap_new _ _ _ (by simp))
  clear XA0
  have XA0 := YA0
  clear YA0
  have PS0 := Lib.hid (OS0.out.below cc (by omega))
  have PS1 := Lib.hid (OS1.out.below cc (by omega))
  have BV := Lib.hid (BW.out.trans (cc.mono (by have := BW.out.size; omega)))
  clear OS0 OS1 BW cc hb
  have OS0 := PS0
  clear PS0
  have OS1 := PS1
  clear PS1
  have BW := BV
  clear BV
  have OX0 := Lib.hid (hr.wide (show w3.heap.size + 1 ≤ _ by simp) (Nat.le_refl _))
  clear hr
  obtain ⟨xA00, xA01, xA02, xA03, -, -, -, -⟩ := cells4 XA0.out
  have lA0 : w.heap.size < w4.heap.size := by omega
  have mA0 : w4.heap.size ≠ w.heap.size := by omega
  obtain ⟨xS00, xS01, xS02, xS03, -, -, -, -⟩ := cells4 XS0.out
  have lS0 : w3.heap.size < w4.heap.size := by omega
  have mS0 : w4.heap.size ≠ w3.heap.size := by omega
  have hcon := Lib.hid (fun W (hW : Below w4.heap.size w4 W) => hI.out W pX0 cX0 ((OX0.out.below hW (by omega)).rd (by have := hW.size; omega)))
  go_wp2_with fail
  refine (hcon.out _ (by repeat (first | exact Below.refl _ _ | refine Below.alloc ?_ (by simp <;> omega) _ | refine Below.drew ?_))).mono ?_
  clear hcon
  rintro e w5 ⟨pG0, cG0, G1, MG0, rfl, hMa, hMG0b, hr0, hr1, hb⟩
  clear xA00 xA01 xA02 xA03 xS00 xS01 xS02 xS03 lA0 mA0 lS0 mS0
  have cc : Below w4.heap.size w4 w5 := below_via hb (by repeat (first | exact Below.refl _ _ | refine Below.alloc ?_ (by simp <;> omega) _ | refine Below.drew ?_)) (by simp <;> omega)
  have szw5 : w4.heap.size + 1 ≤ w5.heap.size := by have := hb.size; simp at this; omega
  have YA0 := Lib.hid ((cc.block (w.heap.size) (by omega)).trans XA0.out)
  have YS0 := Lib.hid ((cc.block (w3.heap.size) (by omega)).trans XS0.out)
  have XX0 : Hid (w5.heap[w4.heap.size]? = some (.cells #[.int .i64 L, .int .i64 G, .bool H, .slice pX0 n0 cX0] 28 (0, 0))) := (hb.block (w4.heap.size) (by simp <;> omega)).trans (heap_new _ _ _ (by simp))
  clear XA0
  have XA0 := YA0
  clear YA0
  clear XS0
  have XS0 := YS0
  clear YS0
  have PS0 := Lib.hid (OS0.out.below cc (by omega))
  have PS1 := Lib.hid (OS1.out.below cc (by omega))
  have PX0 := Lib.hid (OX0.out.below cc (by omega))
  have BV := Lib.hid (BW.out.trans (cc.mono (by have := BW.out.size; omega)))
  clear OS0 OS1 OX0 BW cc hb
  have OS0 := PS0
  clear PS0
  have OS1 := PS1
  clear PS1
  have OX0 := PX0
  clear PX0
  have BW := BV
  clear BV
  have hMG0a : w4.heap.size + 1 ≤ MG0 := by simpa using hMa
  have OG0 := Lib.hid (hr0.wide (show w4.heap.size + 1 ≤ _ by simp) (Nat.le_refl _))
  clear hr0
  have OG1 := Lib.hid hr1
  clear hr1 hMa
  obtain ⟨xA00, xA01, xA02, xA03, -, -, -, -⟩ := cells4 XA0.out
  have lA0 : w.heap.size < w5.heap.size := by omega
  have mA0 : w5.heap.size ≠ w.heap.size := by omega
  obtain ⟨xS00, xS01, xS02, xS03, -, -, -, -⟩ := cells4 XS0.out
  have lS0 : w3.heap.size < w5.heap.size := by omega
  have mS0 : w5.heap.size ≠ w3.heap.size := by omega
  obtain ⟨xX00, xX01, xX02, xX03, -, -, -, -⟩ := cells4 XX0.out
  have lX0 : w4.heap.size < w5.heap.size := by omega
  have mX0 : w5.heap.size ≠ w4.heap.size := by omega
  have hcon := Lib.hid (fun W (hW : Below w5.heap.size w5 W) => eqBelt_v N0 hL0 (Z0) (.slice pG0 N0 cG0) (.slice pS0 N0 cS0) L G H W ((OG0.out.below hW (by omega)).rd (by have := hW.size; omega)) ((OS0.out.below hW (by omega)).rd (by have := hW.size; omega)))
  go_wp2_with fail
  refine (hcon.out _ (by repeat (first | exact Below.refl _ _ | refine Below.alloc ?_ (by simp <;> omega) _ | refine Below.drew ?_))).mono ?_
  clear hcon
  rintro e w6 ⟨rfl, hb⟩
  clear xA00 xA01 xA02 xA03 xS00 xS01 xS02 xS03 xX00 xX01 xX02 xX03 lA0 mA0 lS0 mS0 lX0 mX0
  have cc : Below w5.heap.size w5 w6 := below_via hb (by repeat (first | exact Below.refl _ _ | refine Below.alloc ?_ (by simp <;> omega) _ | refine Below.drew ?_)) (by simp <;> omega)
  have szw6 : w5.heap.size + 1 ≤ w6.heap.size := by have := hb.size; simp at this; omega
  have YA0 := Lib.hid ((cc.block (w.heap.size) (by omega)).trans XA0.out)
  have YS0 := Lib.hid ((cc.block (w3.heap.size) (by omega)).trans XS0.out)
  have YX0 := Lib.hid ((cc.block (w4.heap.size) (by omega)).trans XX0.out)
  have XG0 : Hid (w6.heap[w5.heap.size]? = some (.cells #[.int .i64 L, .int .i64 G, .bool H, .slice pG0 N0 cG0] 28 (0, 0))) := (hb.block (w5.heap.size) (by simp <;> omega)).trans (heap_new _ _ _ (by simp))
  clear XA0
  have XA0 := YA0
  clear YA0
  clear XS0
  have XS0 := YS0
  clear YS0
  clear XX0
  have XX0 := YX0
  clear YX0
  have PS0 := Lib.hid (OS0.out.below cc (by omega))
  have PS1 := Lib.hid (OS1.out.below cc (by omega))
  have PX0 := Lib.hid (OX0.out.below cc (by omega))
  have PG0 := Lib.hid (OG0.out.below cc (by omega))
  have PG1 := Lib.hid (OG1.out.below cc (by omega))
  have BV := Lib.hid (BW.out.trans (cc.mono (by have := BW.out.size; omega)))
  clear OS0 OS1 OX0 OG0 OG1 BW cc hb
  have OS0 := PS0
  clear PS0
  have OS1 := PS1
  clear PS1
  have OX0 := PX0
  clear PX0
  have OG0 := PG0
  clear PG0
  have OG1 := PG1
  clear PG1
  have BW := BV
  clear BV
  obtain ⟨xA00, xA01, xA02, xA03, -, -, -, -⟩ := cells4 XA0.out
  have lA0 : w.heap.size < w6.heap.size := by omega
  have mA0 : w6.heap.size ≠ w.heap.size := by omega
  obtain ⟨xS00, xS01, xS02, xS03, -, -, -, -⟩ := cells4 XS0.out
  have lS0 : w3.heap.size < w6.heap.size := by omega
  have mS0 : w6.heap.size ≠ w3.heap.size := by omega
  obtain ⟨xX00, xX01, xX02, xX03, -, -, -, -⟩ := cells4 XX0.out
  have lX0 : w4.heap.size < w6.heap.size := by omega
  have mX0 : w6.heap.size ≠ w4.heap.size := by omega
  obtain ⟨xG00, xG01, xG02, xG03, -, -, -, -⟩ := cells4 XG0.out
  have lG0 : w5.heap.size < w6.heap.size := by omega
  have mG0 : w6.heap.size ≠ w5.heap.size := by omega
  have hcon := Lib.hid (fun W (hW : Below w6.heap.size w6 W) => eqExitS_v N1 hL1 (Z1) G1 S1 W ((OG1.out.below hW (by omega)).rd (by have := hW.size; omega)) ((OS1.out.below hW (by omega)).rd (by have := hW.size; omega)))
  go_wp2_with fail
  refine (hcon.out _ (by repeat (first | exact Below.refl _ _ | refine Below.alloc ?_ (by simp <;> omega) _ | refine Below.drew ?_))).mono ?_
  clear hcon
  rintro e w7 ⟨rfl, hb⟩
  clear xA00 xA01 xA02 xA03 xS00 xS01 xS02 xS03 xX00 xX01 xX02 xX03 xG00 xG01 xG02 xG03 lA0 mA0 lS0 mS0 lX0 mX0 lG0 mG0
  have cc : Below w6.heap.size w6 w7 := below_via hb (by repeat (first | exact Below.refl _ _ | refine Below.alloc ?_ (by simp <;> omega) _ | refine Below.drew ?_)) (by simp <;> omega)
  have szw7 : w6.heap.size ≤ w7.heap.size := cc.size
  have YA0 := Lib.hid ((cc.block (w.heap.size) (by omega)).trans XA0.out)
  have YS0 := Lib.hid ((cc.block (w3.heap.size) (by omega)).trans XS0.out)
  have YX0 := Lib.hid ((cc.block (w4.heap.size) (by omega)).trans XX0.out)
  have YG0 := Lib.hid ((cc.block (w5.heap.size) (by omega)).trans XG0.out)
  clear XA0
  have XA0 := YA0
  clear YA0
  clear XS0
  have XS0 := YS0
  clear YS0
  clear XX0
  have XX0 := YX0
  clear YX0
  clear XG0
  have XG0 := YG0
  clear YG0
  have PS0 := Lib.hid (OS0.out.below cc (by omega))
  have PS1 := Lib.hid (OS1.out.below cc (by omega))
  have PX0 := Lib.hid (OX0.out.below cc (by omega))
  have PG0 := Lib.hid (OG0.out.below cc (by omega))
  have PG1 := Lib.hid (OG1.out.below cc (by omega))
  have BV := Lib.hid (BW.out.trans (cc.mono (by have := BW.out.size; omega)))
  clear OS0 OS1 OX0 OG0 OG1 BW cc hb
  have OS0 := PS0
  clear PS0
  have OS1 := PS1
  clear PS1
  have OX0 := PX0
  clear PX0
  have OG0 := PG0
  clear PG0
  have OG1 := PG1
  clear PG1
  have BW := BV
  clear BV
  obtain ⟨xA00, xA01, xA02, xA03, -, -, -, -⟩ := cells4 XA0.out
  have lA0 : w.heap.size < w7.heap.size := by omega
  have mA0 : w7.heap.size ≠ w.heap.size := by omega
  obtain ⟨xS00, xS01, xS02, xS03, -, -, -, -⟩ := cells4 XS0.out
  have lS0 : w3.heap.size < w7.heap.size := by omega
  have mS0 : w7.heap.size ≠ w3.heap.size := by omega
  obtain ⟨xX00, xX01, xX02, xX03, -, -, -, -⟩ := cells4 XX0.out
  have lX0 : w4.heap.size < w7.heap.size := by omega
  have mX0 : w7.heap.size ≠ w4.heap.size := by omega
  obtain ⟨xG00, xG01, xG02, xG03, -, -, -, -⟩ := cells4 XG0.out
  have lG0 : w5.heap.size < w7.heap.size := by omega
  have mG0 : w7.heap.size ≠ w5.heap.size := by omega
  have hto := Lib.hid (fun W (hW : Below w7.heap.size w7 W) => toBelt_v n0 hN0 z0 (.slice p0 n0 c0) L G H W (R0.out.later (BW.out.trans (hW.mono (by have := BW.out.size; omega)))))
  have heq := Lib.hid (fun W (hW : Below w7.heap.size w7 W) (p7 : Option Addr) (c7 : Nat) (h7 : Rd W (.slice p7 n0 c7) n0 (n0 * 3) z0) => eqBelt_v n0 hN0 z0 (.slice pX0 n0 cX0) (.slice p7 n0 c7) L G H W ((OX0.out.below hW (by omega)).rd (by have := hW.size; omega)) h7)
  go_upto_region 10 with fail
  go_cut [50] from 46 to 50 (fun sr wx => sr = .bool false ∧ Below w7.heap.size w7 wx)
  case first =>
    go_region_with (first | (go_at_call 17; refine (hto.out _ (by repeat (first | exact Below.refl _ _ | refine Below.alloc ?_ (by simp <;> omega) _ | refine Below.drew ?_))).mono ?_; rintro e w8 ⟨p7, c7, rfl, hr7, hb7⟩; have xbX07 := (hb7.block (w4.heap.size) (by simp <;> omega)).trans XX0.out; obtain ⟨yX00, yX01, yX02, yX03, -, -, -, -⟩ := cells4 xbX07; clear xbX07) | (go_at_call 19; refine (heq.out _ (below_via hb7 (by repeat (first | exact Below.refl _ _ | refine Below.alloc ?_ (by simp <;> omega) _ | refine Below.drew ?_)) (by simp <;> omega)) p7 c7 (hr7.rd (Nat.le_refl _))).mono ?_; rintro e w9 ⟨rfl, hb8⟩))
    all_goals
      have b7 : Below w7.heap.size w7 w8 := below_via hb7 (by repeat (first | exact Below.refl _ _ | refine Below.alloc ?_ (by simp <;> omega) _ | refine Below.drew ?_)) (by simp <;> omega)
      have b8 : Below w7.heap.size w7 w9 := b7.trans (hb8.mono b7.size)
      go_wp2_with fail
      go_meet
      exact ⟨rfl, b8⟩
  case rest =>
    obtain ⟨rfl, hb⟩ := hcut
    clear heq hto
    clear xA00 xA01 xA02 xA03 xS00 xS01 xS02 xS03 xX00 xX01 xX02 xX03 xG00 xG01 xG02 xG03 lA0 mA0 lS0 mS0 lX0 mX0 lG0 mG0
    obtain ⟨w10, rfl⟩ : ∃ x, x = wc := ⟨_, rfl⟩
    have cc : Below w7.heap.size w7 w10 := hb
    have szw10 : w7.heap.size ≤ w10.heap.size := cc.size
    have YA0 := Lib.hid ((cc.block (w.heap.size) (by omega)).trans XA0.out)
    have YS0 := Lib.hid ((cc.block (w3.heap.size) (by omega)).trans XS0.out)
    have YX0 := Lib.hid ((cc.block (w4.heap.size) (by omega)).trans XX0.out)
    have YG0 := Lib.hid ((cc.block (w5.heap.size) (by omega)).trans XG0.out)
    clear XA0
    have XA0 := YA0
    clear YA0
    clear XS0
    have XS0 := YS0
    clear YS0
    clear XX0
    have XX0 := YX0
    clear YX0
    clear XG0
    have XG0 := YG0
    clear YG0
    have PS0 := Lib.hid (OS0.out.below cc (by omega))
    have PS1 := Lib.hid (OS1.out.below cc (by omega))
    have PX0 := Lib.hid (OX0.out.below cc (by omega))
    have PG0 := Lib.hid (OG0.out.below cc (by omega))
    have PG1 := Lib.hid (OG1.out.below cc (by omega))
    have BV := Lib.hid (BW.out.trans (cc.mono (by have := BW.out.size; omega)))
    clear OS0 OS1 OX0 OG0 OG1 BW cc hb
    have OS0 := PS0
    clear PS0
    have OS1 := PS1
    clear PS1
    have OX0 := PX0
    clear PX0
    have OG0 := PG0
    clear PG0
    have OG1 := PG1
    clear PG1
    have BW := BV
    clear BV
    obtain ⟨kX0, hkX0⟩ : ∃ m : Nat, m = 1 + n0 * 3 := ⟨_, rfl⟩
    have bkX0 : kX0 ≤ 100000000 := by omega
    have HkX0 := Lib.hid hkX0
    clear hkX0
    obtain ⟨xA00, xA01, xA02, xA03, -, -, -, -⟩ := cells4 XA0.out
    have lA0 : w.heap.size < w10.heap.size := by omega
    have mA0 : w10.heap.size ≠ w.heap.size := by omega
    obtain ⟨xS00, xS01, xS02, xS03, -, -, -, -⟩ := cells4 XS0.out
    have lS0 : w3.heap.size < w10.heap.size := by omega
    have mS0 : w10.heap.size ≠ w3.heap.size := by omega
    obtain ⟨xX00, xX01, xX02, xX03, -, -, -, -⟩ := cells4 XX0.out
    have lX0 : w4.heap.size < w10.heap.size := by omega
    have mX0 : w10.heap.size ≠ w4.heap.size := by omega
    obtain ⟨xG00, xG01, xG02, xG03, -, -, -, -⟩ := cells4 XG0.out
    have lG0 : w5.heap.size < w10.heap.size := by omega
    have mG0 : w10.heap.size ≠ w5.heap.size := by omega
    have hcon := Lib.hid (fun W (hW : Below w10.heap.size w10 W) => markBelt_v (1) n0 hN0 (by omega) (z0) (w3.heap.size + 1) (w4.heap.size) (.slice pX0 n0 cX0) L G H W (by have := hW.size; omega) (OX0.out.below hW (by omega)))
    go_wp2_with fail
    refine (hcon.out _ (by repeat (first | exact Below.refl _ _ | refine Below.alloc ?_ (by simp <;> omega) _ | refine Below.drew ?_))).mono ?_
    clear hcon
    rw [← HkX0.out]
    rintro e w11 ⟨rfl, hr, hb⟩
    clear xA00 xA01 xA02 xA03 xS00 xS01 xS02 xS03 xX00 xX01 xX02 xX03 xG00 xG01 xG02 xG03 lA0 mA0 lS0 mS0 lX0 mX0 lG0 mG0
    have cc : Touch (w3.heap.size + 1) (w4.heap.size) w10 w11 := (Touch.of_below (by repeat (first | exact Below.refl _ _ | refine Below.alloc ?_ (by simp <;> omega) _ | refine Below.drew ?_))).trans hb
    have szw11 : w10.heap.size ≤ w11.heap.size := cc.size
    have YA0 := Lib.hid ((cc.block (w.heap.size) (by omega) (by omega)).trans XA0.out)
    have YS0 := Lib.hid ((cc.block (w3.heap.size) (by omega) (by omega)).trans XS0.out)
    have YX0 := Lib.hid ((cc.block (w4.heap.size) (by omega) (by omega)).trans XX0.out)
    have YG0 := Lib.hid ((cc.block (w5.heap.size) (by omega) (by omega)).trans XG0.out)
    clear XA0
    have XA0 := YA0
    clear YA0
    clear XS0
    have XS0 := YS0
    clear YS0
    clear XX0
    have XX0 := YX0
    clear YX0
    clear XG0
    have XG0 := YG0
    clear YG0
    have PS0 := Lib.hid (OS0.out.touch cc (by omega) (by omega))
    have PS1 := Lib.hid (OS1.out.touch cc (by omega) (by omega))
    have PG0 := Lib.hid (OG0.out.touch cc (by omega) (by omega))
    have PG1 := Lib.hid (OG1.out.touch cc (by omega) (by omega))
    have BV := Lib.hid (BW.out.trans (cc.below (by have := BW.out.size; omega) (by have := BW.out.size; omega)))
    clear OS0 OS1 OG0 OG1 OX0 BW cc hb
    have OS0 := PS0
    clear PS0
    have OS1 := PS1
    clear PS1
    have OG0 := PG0
    clear PG0
    have OG1 := PG1
    clear PG1
    have BW := BV
    clear BV
    have OX0 := Lib.hid hr
    clear hr
    clear OX0
    obtain ⟨xA00, xA01, xA02, xA03, -, -, -, -⟩ := cells4 XA0.out
    have lA0 : w.heap.size < w11.heap.size := by omega
    have mA0 : w11.heap.size ≠ w.heap.size := by omega
    obtain ⟨xS00, xS01, xS02, xS03, -, -, -, -⟩ := cells4 XS0.out
    have lS0 : w3.heap.size < w11.heap.size := by omega
    have mS0 : w11.heap.size ≠ w3.heap.size := by omega
    obtain ⟨xX00, xX01, xX02, xX03, -, -, -, -⟩ := cells4 XX0.out
    have lX0 : w4.heap.size < w11.heap.size := by omega
    have mX0 : w11.heap.size ≠ w4.heap.size := by omega
    obtain ⟨xG00, xG01, xG02, xG03, -, -, -, -⟩ := cells4 XG0.out
    have lG0 : w5.heap.size < w11.heap.size := by omega
    have mG0 : w11.heap.size ≠ w5.heap.size := by omega
    have hcon := Lib.hid (fun W (hW : Below w11.heap.size w11 W) => eqBelt_v N0 hL0 (Z0) (.slice pG0 N0 cG0) (.slice pS0 N0 cS0) L G H W ((OG0.out.below hW (by omega)).rd (by have := hW.size; omega)) ((OS0.out.below hW (by omega)).rd (by have := hW.size; omega)))
    go_wp2_with fail
    refine (hcon.out _ (by repeat (first | exact Below.refl _ _ | refine Below.alloc ?_ (by simp <;> omega) _ | refine Below.drew ?_))).mono ?_
    clear hcon
    rintro e w12 ⟨rfl, hb⟩
    clear xA00 xA01 xA02 xA03 xS00 xS01 xS02 xS03 xX00 xX01 xX02 xX03 xG00 xG01 xG02 xG03 lA0 mA0 lS0 mS0 lX0 mX0 lG0 mG0
    have cc : Below w11.heap.size w11 w12 := below_via hb (by repeat (first | exact Below.refl _ _ | refine Below.alloc ?_ (by simp <;> omega) _ | refine Below.drew ?_)) (by simp <;> omega)
    have szw12 : w11.heap.size ≤ w12.heap.size := cc.size
    have YA0 := Lib.hid ((cc.block (w.heap.size) (by omega)).trans XA0.out)
    have YS0 := Lib.hid ((cc.block (w3.heap.size) (by omega)).trans XS0.out)
    have YX0 := Lib.hid ((cc.block (w4.heap.size) (by omega)).trans XX0.out)
    have YG0 := Lib.hid ((cc.block (w5.heap.size) (by omega)).trans XG0.out)
    clear XA0
    have XA0 := YA0
    clear YA0
    clear XS0
    have XS0 := YS0
    clear YS0
    clear XX0
    have XX0 := YX0
    clear YX0
    clear XG0
    have XG0 := YG0
    clear YG0
    have PS0 := Lib.hid (OS0.out.below cc (by omega))
    have PS1 := Lib.hid (OS1.out.below cc (by omega))
    have PG0 := Lib.hid (OG0.out.below cc (by omega))
    have PG1 := Lib.hid (OG1.out.below cc (by omega))
    have BV := Lib.hid (BW.out.trans (cc.mono (by have := BW.out.size; omega)))
    clear OS0 OS1 OG0 OG1 BW cc hb
    have OS0 := PS0
    clear PS0
    have OS1 := PS1
    clear PS1
    have OG0 := PG0
    clear PG0
    have OG1 := PG1
    clear PG1
    have BW := BV
    clear BV
    obtain ⟨xA00, xA01, xA02, xA03, -, -, -, -⟩ := cells4 XA0.out
    have lA0 : w.heap.size < w12.heap.size := by omega
    have mA0 : w12.heap.size ≠ w.heap.size := by omega
    obtain ⟨xS00, xS01, xS02, xS03, -, -, -, -⟩ := cells4 XS0.out
    have lS0 : w3.heap.size < w12.heap.size := by omega
    have mS0 : w12.heap.size ≠ w3.heap.size := by omega
    obtain ⟨xX00, xX01, xX02, xX03, -, -, -, -⟩ := cells4 XX0.out
    have lX0 : w4.heap.size < w12.heap.size := by omega
    have mX0 : w12.heap.size ≠ w4.heap.size := by omega
    obtain ⟨xG00, xG01, xG02, xG03, -, -, -, -⟩ := cells4 XG0.out
    have lG0 : w5.heap.size < w12.heap.size := by omega
    have mG0 : w12.heap.size ≠ w5.heap.size := by omega
    have hcon := Lib.hid (fun W (hW : Below w12.heap.size w12 W) => eqExitS_v N1 hL1 (Z1) G1 S1 W ((OG1.out.below hW (by omega)).rd (by have := hW.size; omega)) ((OS1.out.below hW (by omega)).rd (by have := hW.size; omega)))
    go_wp2_with fail
    refine (hcon.out _ (by repeat (first | exact Below.refl _ _ | refine Below.alloc ?_ (by simp <;> omega) _ | refine Below.drew ?_))).mono ?_
    clear hcon
    rintro e w13 ⟨rfl, hb⟩
    clear xA00 xA01 xA02 xA03 xS00 xS01 xS02 xS03 xX00 xX01 xX02 xX03 xG00 xG01 xG02 xG03 lA0 mA0 lS0 mS0 lX0 mX0 lG0 mG0
    have cc : Below w12.heap.size w12 w13 := below_via hb (by repeat (first | exact Below.refl _ _ | refine Below.alloc ?_ (by simp <;> omega) _ | refine Below.drew ?_)) (by simp <;> omega)
    have szw13 : w12.heap.size ≤ w13.heap.size := cc.size
    have YA0 := Lib.hid ((cc.block (w.heap.size) (by omega)).trans XA0.out)
    have YS0 := Lib.hid ((cc.block (w3.heap.size) (by omega)).trans XS0.out)
    have YX0 := Lib.hid ((cc.block (w4.heap.size) (by omega)).trans XX0.out)
    have YG0 := Lib.hid ((cc.block (w5.heap.size) (by omega)).trans XG0.out)
    clear XA0
    have XA0 := YA0
    clear YA0
    clear XS0
    have XS0 := YS0
    clear YS0
    clear XX0
    have XX0 := YX0
    clear YX0
    clear XG0
    have XG0 := YG0
    clear YG0
    have PS0 := Lib.hid (OS0.out.below cc (by omega))
    have PS1 := Lib.hid (OS1.out.below cc (by omega))
    have PG0 := Lib.hid (OG0.out.below cc (by omega))
    have PG1 := Lib.hid (OG1.out.below cc (by omega))
    have BV := Lib.hid (BW.out.trans (cc.mono (by have := BW.out.size; omega)))
    clear OS0 OS1 OG0 OG1 BW cc hb
    have OS0 := PS0
    clear PS0
    have OS1 := PS1
    clear PS1
    have OG0 := PG0
    clear PG0
    have OG1 := PG1
    clear PG1
    have BW := BV
    clear BV
    obtain ⟨kG0, hkG0⟩ : ∃ m : Nat, m = 1 + N0 * 3 := ⟨_, rfl⟩
    have bkG0 : kG0 ≤ 200000000 := by omega
    have HkG0 := Lib.hid hkG0
    clear hkG0
    obtain ⟨xA00, xA01, xA02, xA03, -, -, -, -⟩ := cells4 XA0.out
    have lA0 : w.heap.size < w13.heap.size := by omega
    have mA0 : w13.heap.size ≠ w.heap.size := by omega
    obtain ⟨xS00, xS01, xS02, xS03, -, -, -, -⟩ := cells4 XS0.out
    have lS0 : w3.heap.size < w13.heap.size := by omega
    have mS0 : w13.heap.size ≠ w3.heap.size := by omega
    obtain ⟨xX00, xX01, xX02, xX03, -, -, -, -⟩ := cells4 XX0.out
    have lX0 : w4.heap.size < w13.heap.size := by omega
    have mX0 : w13.heap.size ≠ w4.heap.size := by omega
    obtain ⟨xG00, xG01, xG02, xG03, -, -, -, -⟩ := cells4 XG0.out
    have lG0 : w5.heap.size < w13.heap.size := by omega
    have mG0 : w13.heap.size ≠ w5.heap.size := by omega
    have hcon := Lib.hid (fun W (hW : Below w13.heap.size w13 W) => markBelt_v (1) N0 hL0 (by omega) (Z0) (w4.heap.size + 1) (MG0) (.slice pG0 N0 cG0) L G H W (by have := hW.size; omega) (OG0.out.below hW (by omega)))
    go_wp2_with fail
    refine (hcon.out _ (by repeat (first | exact Below.refl _ _ | refine Below.alloc ?_ (by simp <;> omega) _ | refine Below.drew ?_))).mono ?_
    clear hcon
    rw [← HkG0.out]
    rintro e w14 ⟨rfl, hr, hb⟩
    clear xA00 xA01 xA02 xA03 xS00 xS01 xS02 xS03 xX00 xX01 xX02 xX03 xG00 xG01 xG02 xG03 lA0 mA0 lS0 mS0 lX0 mX0 lG0 mG0
    have cc : Touch (w4.heap.size + 1) (MG0) w13 w14 := (Touch.of_below (by repeat (first | exact Below.refl _ _ | refine Below.alloc ?_ (by simp <;> omega) _ | refine Below.drew ?_))).trans hb
    have szw14 : w13.heap.size ≤ w14.heap.size := cc.size
    have YA0 := Lib.hid ((cc.block (w.heap.size) (by omega) (by omega)).trans XA0.out)
    have YS0 := Lib.hid ((cc.block (w3.heap.size) (by omega) (by omega)).trans XS0.out)
    have YX0 := Lib.hid ((cc.block (w4.heap.size) (by omega) (by omega)).trans XX0.out)
    have YG0 := Lib.hid ((cc.block (w5.heap.size) (by omega) (by omega)).trans XG0.out)
    clear XA0
    have XA0 := YA0
    clear YA0
    clear XS0
    have XS0 := YS0
    clear YS0
    clear XX0
    have XX0 := YX0
    clear YX0
    clear XG0
    have XG0 := YG0
    clear YG0
    have PS0 := Lib.hid (OS0.out.touch cc (by omega) (by omega))
    have PS1 := Lib.hid (OS1.out.touch cc (by omega) (by omega))
    have PG1 := Lib.hid (OG1.out.touch cc (by omega) (by omega))
    have BV := Lib.hid (BW.out.trans (cc.below (by have := BW.out.size; omega) (by have := BW.out.size; omega)))
    clear OS0 OS1 OG1 OG0 BW cc hb
    have OS0 := PS0
    clear PS0
    have OS1 := PS1
    clear PS1
    have OG1 := PG1
    clear PG1
    have BW := BV
    clear BV
    have OG0 := Lib.hid hr
    clear hr
    obtain ⟨kG1, hkG1⟩ : ∃ m : Nat, m = kG0 + N1 * 2 := ⟨_, rfl⟩
    have bkG1 : kG1 ≤ 300000000 := by omega
    have HkG1 := Lib.hid hkG1
    clear hkG1
    obtain ⟨xA00, xA01, xA02, xA03, -, -, -, -⟩ := cells4 XA0.out
    have lA0 : w.heap.size < w14.heap.size := by omega
    have mA0 : w14.heap.size ≠ w.heap.size := by omega
    obtain ⟨xS00, xS01, xS02, xS03, -, -, -, -⟩ := cells4 XS0.out
    have lS0 : w3.heap.size < w14.heap.size := by omega
    have mS0 : w14.heap.size ≠ w3.heap.size := by omega
    obtain ⟨xX00, xX01, xX02, xX03, -, -, -, -⟩ := cells4 XX0.out
    have lX0 : w4.heap.size < w14.heap.size := by omega
    have mX0 : w14.heap.size ≠ w4.heap.size := by omega
    obtain ⟨xG00, xG01, xG02, xG03, -, -, -, -⟩ := cells4 XG0.out
    have lG0 : w5.heap.size < w14.heap.size := by omega
    have mG0 : w14.heap.size ≠ w5.heap.size := by omega
    have hcon := Lib.hid (fun W (hW : Below w14.heap.size w14 W) => markExitS_v (kG0) N1 hL1 (by omega) (Z1) (MG0) (w5.heap.size) G1 W (OG1.out.below hW (by omega)))
    go_wp2_with fail
    refine (hcon.out _ (by repeat (first | exact Below.refl _ _ | refine Below.alloc ?_ (by simp <;> omega) _ | refine Below.drew ?_))).mono ?_
    clear hcon
    rw [← HkG1.out]
    rintro e w15 ⟨rfl, hr, hb⟩
    clear xA00 xA01 xA02 xA03 xS00 xS01 xS02 xS03 xX00 xX01 xX02 xX03 xG00 xG01 xG02 xG03 lA0 mA0 lS0 mS0 lX0 mX0 lG0 mG0
    have cc : Touch (MG0) (w5.heap.size) w14 w15 := (Touch.of_below (by repeat (first | exact Below.refl _ _ | refine Below.alloc ?_ (by simp <;> omega) _ | refine Below.drew ?_))).trans hb
    have szw15 : w14.heap.size ≤ w15.heap.size := cc.size
    have YA0 := Lib.hid ((cc.block (w.heap.size) (by omega) (by omega)).trans XA0.out)
    have YS0 := Lib.hid ((cc.block (w3.heap.size) (by omega) (by omega)).trans XS0.out)
    have YX0 := Lib.hid ((cc.block (w4.heap.size) (by omega) (by omega)).trans XX0.out)
    have YG0 := Lib.hid ((cc.block (w5.heap.size) (by omega) (by omega)).trans XG0.out)
    clear XA0
    have XA0 := YA0
    clear YA0
    clear XS0
    have XS0 := YS0
    clear YS0
    clear XX0
    have XX0 := YX0
    clear YX0
    clear XG0
    have XG0 := YG0
    clear YG0
    have PS0 := Lib.hid (OS0.out.touch cc (by omega) (by omega))
    have PS1 := Lib.hid (OS1.out.touch cc (by omega) (by omega))
    have PG0 := Lib.hid (OG0.out.touch cc (by omega) (by omega))
    have BV := Lib.hid (BW.out.trans (cc.below (by have := BW.out.size; omega) (by have := BW.out.size; omega)))
    clear OS0 OS1 OG0 OG1 BW cc hb
    have OS0 := PS0
    clear PS0
    have OS1 := PS1
    clear PS1
    have OG0 := PG0
    clear PG0
    have BW := BV
    clear BV
    have OG1 := Lib.hid hr
    clear hr
    obtain ⟨xA00, xA01, xA02, xA03, -, -, -, -⟩ := cells4 XA0.out
    have lA0 : w.heap.size < w15.heap.size := by omega
    have mA0 : w15.heap.size ≠ w.heap.size := by omega
    obtain ⟨xS00, xS01, xS02, xS03, -, -, -, -⟩ := cells4 XS0.out
    have lS0 : w3.heap.size < w15.heap.size := by omega
    have mS0 : w15.heap.size ≠ w3.heap.size := by omega
    obtain ⟨xX00, xX01, xX02, xX03, -, -, -, -⟩ := cells4 XX0.out
    have lX0 : w4.heap.size < w15.heap.size := by omega
    have mX0 : w15.heap.size ≠ w4.heap.size := by omega
    obtain ⟨xG00, xG01, xG02, xG03, -, -, -, -⟩ := cells4 XG0.out
    have lG0 : w5.heap.size < w15.heap.size := by omega
    have mG0 : w15.heap.size ≠ w5.heap.size := by omega
    have hcon := Lib.hid (fun W (hW : Below w15.heap.size w15 W) => heldBelt_v (1) N0 hL0 (by omega) (.slice pG0 N0 cG0) L G H W ((OG0.out.below hW (by omega)).rd (by have := hW.size; omega)))
    go_wp2_with fail
    refine (hcon.out _ (by repeat (first | exact Below.refl _ _ | refine Below.alloc ?_ (by simp <;> omega) _ | refine Below.drew ?_))).mono ?_
    clear hcon
    rw [← HkG0.out]
    rintro e w16 ⟨rfl, hb⟩
    clear xA00 xA01 xA02 xA03 xS00 xS01 xS02 xS03 xX00 xX01 xX02 xX03 xG00 xG01 xG02 xG03 lA0 mA0 lS0 mS0 lX0 mX0 lG0 mG0
    have cc : Below w15.heap.size w15 w16 := below_via hb (by repeat (first | exact Below.refl _ _ | refine Below.alloc ?_ (by simp <;> omega) _ | refine Below.drew ?_)) (by simp <;> omega)
    have szw16 : w15.heap.size ≤ w16.heap.size := cc.size
    have YA0 := Lib.hid ((cc.block (w.heap.size) (by omega)).trans XA0.out)
    have YS0 := Lib.hid ((cc.block (w3.heap.size) (by omega)).trans XS0.out)
    have YX0 := Lib.hid ((cc.block (w4.heap.size) (by omega)).trans XX0.out)
    have YG0 := Lib.hid ((cc.block (w5.heap.size) (by omega)).trans XG0.out)
    clear XA0
    have XA0 := YA0
    clear YA0
    clear XS0
    have XS0 := YS0
    clear YS0
    clear XX0
    have XX0 := YX0
    clear YX0
    clear XG0
    have XG0 := YG0
    clear YG0
    have PS0 := Lib.hid (OS0.out.below cc (by omega))
    have PS1 := Lib.hid (OS1.out.below cc (by omega))
    have PG0 := Lib.hid (OG0.out.below cc (by omega))
    have PG1 := Lib.hid (OG1.out.below cc (by omega))
    have BV := Lib.hid (BW.out.trans (cc.mono (by have := BW.out.size; omega)))
    clear OS0 OS1 OG0 OG1 BW cc hb
    have OS0 := PS0
    clear PS0
    have OS1 := PS1
    clear PS1
    have OG0 := PG0
    clear PG0
    have OG1 := PG1
    clear PG1
    have BW := BV
    clear BV
    obtain ⟨xA00, xA01, xA02, xA03, -, -, -, -⟩ := cells4 XA0.out
    have lA0 : w.heap.size < w16.heap.size := by omega
    have mA0 : w16.heap.size ≠ w.heap.size := by omega
    obtain ⟨xS00, xS01, xS02, xS03, -, -, -, -⟩ := cells4 XS0.out
    have lS0 : w3.heap.size < w16.heap.size := by omega
    have mS0 : w16.heap.size ≠ w3.heap.size := by omega
    obtain ⟨xX00, xX01, xX02, xX03, -, -, -, -⟩ := cells4 XX0.out
    have lX0 : w4.heap.size < w16.heap.size := by omega
    have mX0 : w16.heap.size ≠ w4.heap.size := by omega
    obtain ⟨xG00, xG01, xG02, xG03, -, -, -, -⟩ := cells4 XG0.out
    have lG0 : w5.heap.size < w16.heap.size := by omega
    have mG0 : w16.heap.size ≠ w5.heap.size := by omega
    have hcon := Lib.hid (fun W (hW : Below w16.heap.size w16 W) => heldExitS_v (kG0) N1 hL1 (by omega) G1 W ((OG1.out.below hW (by omega)).rd (by have := hW.size; omega)))
    go_wp2_with fail
    refine (hcon.out _ (by repeat (first | exact Below.refl _ _ | refine Below.alloc ?_ (by simp <;> omega) _ | refine Below.drew ?_))).mono ?_
    clear hcon
    rw [← HkG1.out]
    rintro e w17 ⟨rfl, hb⟩
    clear xA00 xA01 xA02 xA03 xS00 xS01 xS02 xS03 xX00 xX01 xX02 xX03 xG00 xG01 xG02 xG03 lA0 mA0 lS0 mS0 lX0 mX0 lG0 mG0
    have cc : Below w16.heap.size w16 w17 := below_via hb (by repeat (first | exact Below.refl _ _ | refine Below.alloc ?_ (by simp <;> omega) _ | refine Below.drew ?_)) (by simp <;> omega)
    have szw17 : w16.heap.size ≤ w17.heap.size := cc.size
    have YA0 := Lib.hid ((cc.block (w.heap.size) (by omega)).trans XA0.out)
    have YS0 := Lib.hid ((cc.block (w3.heap.size) (by omega)).trans XS0.out)
    have YX0 := Lib.hid ((cc.block (w4.heap.size) (by omega)).trans XX0.out)
    have YG0 := Lib.hid ((cc.block (w5.heap.size) (by omega)).trans XG0.out)
    clear XA0
    have XA0 := YA0
    clear YA0
    clear XS0
    have XS0 := YS0
    clear YS0
    clear XX0
    have XX0 := YX0
    clear YX0
    clear XG0
    have XG0 := YG0
    clear YG0
    have PS0 := Lib.hid (OS0.out.below cc (by omega))
    have PS1 := Lib.hid (OS1.out.below cc (by omega))
    have PG0 := Lib.hid (OG0.out.below cc (by omega))
    have PG1 := Lib.hid (OG1.out.below cc (by omega))
    have BV := Lib.hid (BW.out.trans (cc.mono (by have := BW.out.size; omega)))
    clear OS0 OS1 OG0 OG1 BW cc hb
    have OS0 := PS0
    clear PS0
    have OS1 := PS1
    clear PS1
    have OG0 := PG0
    clear PG0
    have OG1 := PG1
    clear PG1
    have BW := BV
    clear BV
    obtain ⟨xA00, xA01, xA02, xA03, -, -, -, -⟩ := cells4 XA0.out
    have lA0 : w.heap.size < w17.heap.size := by omega
    have mA0 : w17.heap.size ≠ w.heap.size := by omega
    obtain ⟨xS00, xS01, xS02, xS03, -, -, -, -⟩ := cells4 XS0.out
    have lS0 : w3.heap.size < w17.heap.size := by omega
    have mS0 : w17.heap.size ≠ w3.heap.size := by omega
    obtain ⟨xX00, xX01, xX02, xX03, -, -, -, -⟩ := cells4 XX0.out
    have lX0 : w4.heap.size < w17.heap.size := by omega
    have mX0 : w17.heap.size ≠ w4.heap.size := by omega
    obtain ⟨xG00, xG01, xG02, xG03, -, -, -, -⟩ := cells4 XG0.out
    have lG0 : w5.heap.size < w17.heap.size := by omega
    have mG0 : w17.heap.size ≠ w5.heap.size := by omega
    have hcon := Lib.hid (fun W (hW : Below w17.heap.size w17 W) => toBelt_v n0 hN0 z0 (.slice p0 n0 c0) L G H W (R0.out.later (BW.out.trans (hW.mono (by have := BW.out.size; omega)))))
    go_wp2_with fail
    refine (hcon.out _ (by repeat (first | exact Below.refl _ _ | refine Below.alloc ?_ (by simp <;> omega) _ | refine Below.drew ?_))).mono ?_
    clear hcon
    rintro e w18 ⟨pE0, cE0, rfl, hr, hb⟩
    clear xA00 xA01 xA02 xA03 xS00 xS01 xS02 xS03 xX00 xX01 xX02 xX03 xG00 xG01 xG02 xG03 lA0 mA0 lS0 mS0 lX0 mX0 lG0 mG0
    have cc : Below w17.heap.size w17 w18 := below_via hb (by repeat (first | exact Below.refl _ _ | refine Below.alloc ?_ (by simp <;> omega) _ | refine Below.drew ?_)) (by simp <;> omega)
    have szw18 : w17.heap.size ≤ w18.heap.size := cc.size
    have YA0 := Lib.hid ((cc.block (w.heap.size) (by omega)).trans XA0.out)
    have YS0 := Lib.hid ((cc.block (w3.heap.size) (by omega)).trans XS0.out)
    have YX0 := Lib.hid ((cc.block (w4.heap.size) (by omega)).trans XX0.out)
    have YG0 := Lib.hid ((cc.block (w5.heap.size) (by omega)).trans XG0.out)
    clear XA0
    have XA0 := YA0
    clear YA0
    clear XS0
    have XS0 := YS0
    clear YS0
    clear XX0
    have XX0 := YX0
    clear YX0
    clear XG0
    have XG0 := YG0
    clear YG0
    have PS0 := Lib.hid (OS0.out.below cc (by omega))
    have PS1 := Lib.hid (OS1.out.below cc (by omega))
    have PG0 := Lib.hid (OG0.out.below cc (by omega))
    have PG1 := Lib.hid (OG1.out.below cc (by omega))
    have BV := Lib.hid (BW.out.trans (cc.mono (by have := BW.out.size; omega)))
    clear OS0 OS1 OG0 OG1 BW cc hb
    have OS0 := PS0
    clear PS0
    have OS1 := PS1
    clear PS1
    have OG0 := PG0
    clear PG0
    have OG1 := PG1
    clear PG1
    have BW := BV
    clear BV
    have OE0 := Lib.hid (hr.wide (show w17.heap.size ≤ _ by simp) (Nat.le_refl _))
    clear hr
    obtain ⟨xA00, xA01, xA02, xA03, -, -, -, -⟩ := cells4 XA0.out
    have lA0 : w.heap.size < w18.heap.size := by omega
    have mA0 : w18.heap.size ≠ w.heap.size := by omega
    obtain ⟨xS00, xS01, xS02, xS03, -, -, -, -⟩ := cells4 XS0.out
    have lS0 : w3.heap.size < w18.heap.size := by omega
    have mS0 : w18.heap.size ≠ w3.heap.size := by omega
    obtain ⟨xX00, xX01, xX02, xX03, -, -, -, -⟩ := cells4 XX0.out
    have lX0 : w4.heap.size < w18.heap.size := by omega
    have mX0 : w18.heap.size ≠ w4.heap.size := by omega
    obtain ⟨xG00, xG01, xG02, xG03, -, -, -, -⟩ := cells4 XG0.out
    have lG0 : w5.heap.size < w18.heap.size := by omega
    have mG0 : w18.heap.size ≠ w5.heap.size := by omega
    have hcon := Lib.hid (fun W (hW : Below w18.heap.size w18 W) => hI.out W pE0 cE0 ((OE0.out.below hW (by omega)).rd (by have := hW.size; omega)))
    go_wp2_with fail
    refine (hcon.out _ (by repeat (first | exact Below.refl _ _ | refine Below.alloc ?_ (by simp <;> omega) _ | refine Below.drew ?_))).mono ?_
    clear hcon
    rintro e w19 ⟨pK0, cK0, K1, MK0, rfl, hMa, hMK0b, hr0, hr1, hb⟩
    clear xA00 xA01 xA02 xA03 xS00 xS01 xS02 xS03 xX00 xX01 xX02 xX03 xG00 xG01 xG02 xG03 lA0 mA0 lS0 mS0 lX0 mX0 lG0 mG0
    have cc : Below w18.heap.size w18 w19 := below_via hb (by repeat (first | exact Below.refl _ _ | refine Below.alloc ?_ (by simp <;> omega) _ | refine Below.drew ?_)) (by simp <;> omega)
    have szw19 : w18.heap.size ≤ w19.heap.size := cc.size
    have YA0 := Lib.hid ((cc.block (w.heap.size) (by omega)).trans XA0.out)
    have YS0 := Lib.hid ((cc.block (w3.heap.size) (by omega)).trans XS0.out)
    have YX0 := Lib.hid ((cc.block (w4.heap.size) (by omega)).trans XX0.out)
    have YG0 := Lib.hid ((cc.block (w5.heap.size) (by omega)).trans XG0.out)
    clear XA0
    have XA0 := YA0
    clear YA0
    clear XS0
    have XS0 := YS0
    clear YS0
    clear XX0
    have XX0 := YX0
    clear YX0
    clear XG0
    have XG0 := YG0
    clear YG0
    have PS0 := Lib.hid (OS0.out.below cc (by omega))
    have PS1 := Lib.hid (OS1.out.below cc (by omega))
    have PG0 := Lib.hid (OG0.out.below cc (by omega))
    have PG1 := Lib.hid (OG1.out.below cc (by omega))
    have BV := Lib.hid (BW.out.trans (cc.mono (by have := BW.out.size; omega)))
    clear OS0 OS1 OG0 OG1 OE0 BW cc hb
    have OS0 := PS0
    clear PS0
    have OS1 := PS1
    clear PS1
    have OG0 := PG0
    clear PG0
    have OG1 := PG1
    clear PG1
    have BW := BV
    clear BV
    have hMK0a : w18.heap.size ≤ MK0 := by simpa using hMa
    have OK0 := Lib.hid (hr0.wide (show w18.heap.size ≤ _ by simp) (Nat.le_refl _))
    clear hr0
    have OK1 := Lib.hid hr1
    clear hr1 hMa
    obtain ⟨xA00, xA01, xA02, xA03, -, -, -, -⟩ := cells4 XA0.out
    have lA0 : w.heap.size < w19.heap.size := by omega
    have mA0 : w19.heap.size ≠ w.heap.size := by omega
    obtain ⟨xS00, xS01, xS02, xS03, -, -, -, -⟩ := cells4 XS0.out
    have lS0 : w3.heap.size < w19.heap.size := by omega
    have mS0 : w19.heap.size ≠ w3.heap.size := by omega
    obtain ⟨xX00, xX01, xX02, xX03, -, -, -, -⟩ := cells4 XX0.out
    have lX0 : w4.heap.size < w19.heap.size := by omega
    have mX0 : w19.heap.size ≠ w4.heap.size := by omega
    obtain ⟨xG00, xG01, xG02, xG03, -, -, -, -⟩ := cells4 XG0.out
    have lG0 : w5.heap.size < w19.heap.size := by omega
    have mG0 : w19.heap.size ≠ w5.heap.size := by omega
    have hcon := Lib.hid (fun W (hW : Below w19.heap.size w19 W) => eqBelt_v N0 hL0 (Z0) (.slice pK0 N0 cK0) (.slice pS0 N0 cS0) L G H W ((OK0.out.below hW (by omega)).rd (by have := hW.size; omega)) ((OS0.out.below hW (by omega)).rd (by have := hW.size; omega)))
    go_wp2_with fail
    refine (hcon.out _ (by repeat (first | exact Below.refl _ _ | refine Below.alloc ?_ (by simp <;> omega) _ | refine Below.drew ?_))).mono ?_
    clear hcon
    rintro e w20 ⟨rfl, hb⟩
    clear xA00 xA01 xA02 xA03 xS00 xS01 xS02 xS03 xX00 xX01 xX02 xX03 xG00 xG01 xG02 xG03 lA0 mA0 lS0 mS0 lX0 mX0 lG0 mG0
    have cc : Below w19.heap.size w19 w20 := below_via hb (by repeat (first | exact Below.refl _ _ | refine Below.alloc ?_ (by simp <;> omega) _ | refine Below.drew ?_)) (by simp <;> omega)
    have szw20 : w19.heap.size + 1 ≤ w20.heap.size := by have := hb.size; simp at this; omega
    have YA0 := Lib.hid ((cc.block (w.heap.size) (by omega)).trans XA0.out)
    have YS0 := Lib.hid ((cc.block (w3.heap.size) (by omega)).trans XS0.out)
    have YX0 := Lib.hid ((cc.block (w4.heap.size) (by omega)).trans XX0.out)
    have YG0 := Lib.hid ((cc.block (w5.heap.size) (by omega)).trans XG0.out)
    have XK0 : Hid (w20.heap[w19.heap.size]? = some (.cells #[.int .i64 L, .int .i64 G, .bool H, .slice pK0 N0 cK0] 28 (0, 0))) := (hb.block (w19.heap.size) (by simp <;> omega)).trans (heap_new _ _ _ (by simp))
    clear XA0
    have XA0 := YA0
    clear YA0
    clear XS0
    have XS0 := YS0
    clear YS0
    clear XX0
    have XX0 := YX0
    clear YX0
    clear XG0
    have XG0 := YG0
    clear YG0
    have PS0 := Lib.hid (OS0.out.below cc (by omega))
    have PS1 := Lib.hid (OS1.out.below cc (by omega))
    have PG0 := Lib.hid (OG0.out.below cc (by omega))
    have PG1 := Lib.hid (OG1.out.below cc (by omega))
    have PK0 := Lib.hid (OK0.out.below cc (by omega))
    have PK1 := Lib.hid (OK1.out.below cc (by omega))
    have BV := Lib.hid (BW.out.trans (cc.mono (by have := BW.out.size; omega)))
    clear OS0 OS1 OG0 OG1 OK0 OK1 BW cc hb
    have OS0 := PS0
    clear PS0
    have OS1 := PS1
    clear PS1
    have OG0 := PG0
    clear PG0
    have OG1 := PG1
    clear PG1
    have OK0 := PK0
    clear PK0
    have OK1 := PK1
    clear PK1
    have BW := BV
    clear BV
    obtain ⟨xA00, xA01, xA02, xA03, -, -, -, -⟩ := cells4 XA0.out
    have lA0 : w.heap.size < w20.heap.size := by omega
    have mA0 : w20.heap.size ≠ w.heap.size := by omega
    obtain ⟨xS00, xS01, xS02, xS03, -, -, -, -⟩ := cells4 XS0.out
    have lS0 : w3.heap.size < w20.heap.size := by omega
    have mS0 : w20.heap.size ≠ w3.heap.size := by omega
    obtain ⟨xX00, xX01, xX02, xX03, -, -, -, -⟩ := cells4 XX0.out
    have lX0 : w4.heap.size < w20.heap.size := by omega
    have mX0 : w20.heap.size ≠ w4.heap.size := by omega
    obtain ⟨xG00, xG01, xG02, xG03, -, -, -, -⟩ := cells4 XG0.out
    have lG0 : w5.heap.size < w20.heap.size := by omega
    have mG0 : w20.heap.size ≠ w5.heap.size := by omega
    obtain ⟨xK00, xK01, xK02, xK03, -, -, -, -⟩ := cells4 XK0.out
    have lK0 : w19.heap.size < w20.heap.size := by omega
    have mK0 : w20.heap.size ≠ w19.heap.size := by omega
    have hcon := Lib.hid (fun W (hW : Below w20.heap.size w20 W) => eqExitS_v N1 hL1 (Z1) K1 S1 W ((OK1.out.below hW (by omega)).rd (by have := hW.size; omega)) ((OS1.out.below hW (by omega)).rd (by have := hW.size; omega)))
    go_wp2_with fail
    refine (hcon.out _ (by repeat (first | exact Below.refl _ _ | refine Below.alloc ?_ (by simp <;> omega) _ | refine Below.drew ?_))).mono ?_
    clear hcon
    rintro e w21 ⟨rfl, hb⟩
    clear xA00 xA01 xA02 xA03 xS00 xS01 xS02 xS03 xX00 xX01 xX02 xX03 xG00 xG01 xG02 xG03 xK00 xK01 xK02 xK03 lA0 mA0 lS0 mS0 lX0 mX0 lG0 mG0 lK0 mK0
    have cc : Below w20.heap.size w20 w21 := below_via hb (by repeat (first | exact Below.refl _ _ | refine Below.alloc ?_ (by simp <;> omega) _ | refine Below.drew ?_)) (by simp <;> omega)
    have szw21 : w20.heap.size ≤ w21.heap.size := cc.size
    have YA0 := Lib.hid ((cc.block (w.heap.size) (by omega)).trans XA0.out)
    have YS0 := Lib.hid ((cc.block (w3.heap.size) (by omega)).trans XS0.out)
    have YX0 := Lib.hid ((cc.block (w4.heap.size) (by omega)).trans XX0.out)
    have YG0 := Lib.hid ((cc.block (w5.heap.size) (by omega)).trans XG0.out)
    have YK0 := Lib.hid ((cc.block (w19.heap.size) (by omega)).trans XK0.out)
    clear XA0
    have XA0 := YA0
    clear YA0
    clear XS0
    have XS0 := YS0
    clear YS0
    clear XX0
    have XX0 := YX0
    clear YX0
    clear XG0
    have XG0 := YG0
    clear YG0
    clear XK0
    have XK0 := YK0
    clear YK0
    have PS0 := Lib.hid (OS0.out.below cc (by omega))
    have PS1 := Lib.hid (OS1.out.below cc (by omega))
    have PG0 := Lib.hid (OG0.out.below cc (by omega))
    have PG1 := Lib.hid (OG1.out.below cc (by omega))
    have PK0 := Lib.hid (OK0.out.below cc (by omega))
    have PK1 := Lib.hid (OK1.out.below cc (by omega))
    have BV := Lib.hid (BW.out.trans (cc.mono (by have := BW.out.size; omega)))
    clear OS0 OS1 OG0 OG1 OK0 OK1 BW cc hb
    have OS0 := PS0
    clear PS0
    have OS1 := PS1
    clear PS1
    have OG0 := PG0
    clear PG0
    have OG1 := PG1
    clear PG1
    have OK0 := PK0
    clear PK0
    have OK1 := PK1
    clear PK1
    have BW := BV
    clear BV
    clear OK0
    clear OK1
    obtain ⟨xA00, xA01, xA02, xA03, -, -, -, -⟩ := cells4 XA0.out
    have lA0 : w.heap.size < w21.heap.size := by omega
    have mA0 : w21.heap.size ≠ w.heap.size := by omega
    obtain ⟨xS00, xS01, xS02, xS03, -, -, -, -⟩ := cells4 XS0.out
    have lS0 : w3.heap.size < w21.heap.size := by omega
    have mS0 : w21.heap.size ≠ w3.heap.size := by omega
    obtain ⟨xX00, xX01, xX02, xX03, -, -, -, -⟩ := cells4 XX0.out
    have lX0 : w4.heap.size < w21.heap.size := by omega
    have mX0 : w21.heap.size ≠ w4.heap.size := by omega
    obtain ⟨xG00, xG01, xG02, xG03, -, -, -, -⟩ := cells4 XG0.out
    have lG0 : w5.heap.size < w21.heap.size := by omega
    have mG0 : w21.heap.size ≠ w5.heap.size := by omega
    obtain ⟨xK00, xK01, xK02, xK03, -, -, -, -⟩ := cells4 XK0.out
    have lK0 : w19.heap.size < w21.heap.size := by omega
    have mK0 : w21.heap.size ≠ w19.heap.size := by omega
    have hcon := Lib.hid (fun W (hW : Below w21.heap.size w21 W) => heldBelt_v (1) N0 hL0 (by omega) (.slice pG0 N0 cG0) L G H W ((OG0.out.below hW (by omega)).rd (by have := hW.size; omega)))
    go_wp2_with fail
    refine (hcon.out _ (by repeat (first | exact Below.refl _ _ | refine Below.alloc ?_ (by simp <;> omega) _ | refine Below.drew ?_))).mono ?_
    clear hcon
    rw [← HkG0.out]
    rintro e w22 ⟨rfl, hb⟩
    clear xA00 xA01 xA02 xA03 xS00 xS01 xS02 xS03 xX00 xX01 xX02 xX03 xG00 xG01 xG02 xG03 xK00 xK01 xK02 xK03 lA0 mA0 lS0 mS0 lX0 mX0 lG0 mG0 lK0 mK0
    have cc : Below w21.heap.size w21 w22 := below_via hb (by repeat (first | exact Below.refl _ _ | refine Below.alloc ?_ (by simp <;> omega) _ | refine Below.drew ?_)) (by simp <;> omega)
    have szw22 : w21.heap.size ≤ w22.heap.size := cc.size
    have YA0 := Lib.hid ((cc.block (w.heap.size) (by omega)).trans XA0.out)
    have YS0 := Lib.hid ((cc.block (w3.heap.size) (by omega)).trans XS0.out)
    have YX0 := Lib.hid ((cc.block (w4.heap.size) (by omega)).trans XX0.out)
    have YG0 := Lib.hid ((cc.block (w5.heap.size) (by omega)).trans XG0.out)
    have YK0 := Lib.hid ((cc.block (w19.heap.size) (by omega)).trans XK0.out)
    clear XA0
    have XA0 := YA0
    clear YA0
    clear XS0
    have XS0 := YS0
    clear YS0
    clear XX0
    have XX0 := YX0
    clear YX0
    clear XG0
    have XG0 := YG0
    clear YG0
    clear XK0
    have XK0 := YK0
    clear YK0
    have PS0 := Lib.hid (OS0.out.below cc (by omega))
    have PS1 := Lib.hid (OS1.out.below cc (by omega))
    have PG0 := Lib.hid (OG0.out.below cc (by omega))
    have PG1 := Lib.hid (OG1.out.below cc (by omega))
    have BV := Lib.hid (BW.out.trans (cc.mono (by have := BW.out.size; omega)))
    clear OS0 OS1 OG0 OG1 BW cc hb
    have OS0 := PS0
    clear PS0
    have OS1 := PS1
    clear PS1
    have OG0 := PG0
    clear PG0
    have OG1 := PG1
    clear PG1
    have BW := BV
    clear BV
    obtain ⟨xA00, xA01, xA02, xA03, -, -, -, -⟩ := cells4 XA0.out
    have lA0 : w.heap.size < w22.heap.size := by omega
    have mA0 : w22.heap.size ≠ w.heap.size := by omega
    obtain ⟨xS00, xS01, xS02, xS03, -, -, -, -⟩ := cells4 XS0.out
    have lS0 : w3.heap.size < w22.heap.size := by omega
    have mS0 : w22.heap.size ≠ w3.heap.size := by omega
    obtain ⟨xX00, xX01, xX02, xX03, -, -, -, -⟩ := cells4 XX0.out
    have lX0 : w4.heap.size < w22.heap.size := by omega
    have mX0 : w22.heap.size ≠ w4.heap.size := by omega
    obtain ⟨xG00, xG01, xG02, xG03, -, -, -, -⟩ := cells4 XG0.out
    have lG0 : w5.heap.size < w22.heap.size := by omega
    have mG0 : w22.heap.size ≠ w5.heap.size := by omega
    obtain ⟨xK00, xK01, xK02, xK03, -, -, -, -⟩ := cells4 XK0.out
    have lK0 : w19.heap.size < w22.heap.size := by omega
    have mK0 : w22.heap.size ≠ w19.heap.size := by omega
    have hcon := Lib.hid (fun W (hW : Below w22.heap.size w22 W) => heldExitS_v (kG0) N1 hL1 (by omega) G1 W ((OG1.out.below hW (by omega)).rd (by have := hW.size; omega)))
    go_wp2_with fail
    refine (hcon.out _ (by repeat (first | exact Below.refl _ _ | refine Below.alloc ?_ (by simp <;> omega) _ | refine Below.drew ?_))).mono ?_
    clear hcon
    rw [← HkG1.out]
    rintro e w23 ⟨rfl, hb⟩
    clear xA00 xA01 xA02 xA03 xS00 xS01 xS02 xS03 xX00 xX01 xX02 xX03 xG00 xG01 xG02 xG03 xK00 xK01 xK02 xK03 lA0 mA0 lS0 mS0 lX0 mX0 lG0 mG0 lK0 mK0
    have cc : Below w22.heap.size w22 w23 := below_via hb (by repeat (first | exact Below.refl _ _ | refine Below.alloc ?_ (by simp <;> omega) _ | refine Below.drew ?_)) (by simp <;> omega)
    have szw23 : w22.heap.size ≤ w23.heap.size := cc.size
    have YA0 := Lib.hid ((cc.block (w.heap.size) (by omega)).trans XA0.out)
    have YS0 := Lib.hid ((cc.block (w3.heap.size) (by omega)).trans XS0.out)
    have YX0 := Lib.hid ((cc.block (w4.heap.size) (by omega)).trans XX0.out)
    have YG0 := Lib.hid ((cc.block (w5.heap.size) (by omega)).trans XG0.out)
    have YK0 := Lib.hid ((cc.block (w19.heap.size) (by omega)).trans XK0.out)
    clear XA0
    have XA0 := YA0
    clear YA0
    clear XS0
    have XS0 := YS0
    clear YS0
    clear XX0
    have XX0 := YX0
    clear YX0
    clear XG0
    have XG0 := YG0
    clear YG0
    clear XK0
    have XK0 := YK0
    clear YK0
    have PS0 := Lib.hid (OS0.out.below cc (by omega))
    have PS1 := Lib.hid (OS1.out.below cc (by omega))
    have PG0 := Lib.hid (OG0.out.below cc (by omega))
    have PG1 := Lib.hid (OG1.out.below cc (by omega))
    have BV := Lib.hid (BW.out.trans (cc.mono (by have := BW.out.size; omega)))
    clear OS0 OS1 OG0 OG1 BW cc hb
    have OS0 := PS0
    clear PS0
    have OS1 := PS1
    clear PS1
    have OG0 := PG0
    clear PG0
    have OG1 := PG1
    clear PG1
    have BW := BV
    clear BV
    obtain ⟨xA00, xA01, xA02, xA03, -, -, -, -⟩ := cells4 XA0.out
    have lA0 : w.heap.size < w23.heap.size := by omega
    have mA0 : w23.heap.size ≠ w.heap.size := by omega
    obtain ⟨xS00, xS01, xS02, xS03, -, -, -, -⟩ := cells4 XS0.out
    have lS0 : w3.heap.size < w23.heap.size := by omega
    have mS0 : w23.heap.size ≠ w3.heap.size := by omega
    obtain ⟨xX00, xX01, xX02, xX03, -, -, -, -⟩ := cells4 XX0.out
    have lX0 : w4.heap.size < w23.heap.size := by omega
    have mX0 : w23.heap.size ≠ w4.heap.size := by omega
    obtain ⟨xG00, xG01, xG02, xG03, -, -, -, -⟩ := cells4 XG0.out
    have lG0 : w5.heap.size < w23.heap.size := by omega
    have mG0 : w23.heap.size ≠ w5.heap.size := by omega
    obtain ⟨xK00, xK01, xK02, xK03, -, -, -, -⟩ := cells4 XK0.out
    have lK0 : w19.heap.size < w23.heap.size := by omega
    have mK0 : w23.heap.size ≠ w19.heap.size := by omega
    go_wp2_with fail
    go_ret
    exact ⟨rfl, by first | exact BW.out | exact BW.out.drew⟩

/-! The row's step. -/
theorem own : ownKnob Try.prog.godebug = none := by kernel_rfl
theorem laidOut : laidOutB Try.prog = true := by kernel_rfl
set_option maxRecDepth 100000 in
theorem lifted (os : Os) (started : os.Started) (H : Type) (enc : TypeId × Value → H) :
    ReturnsInHanded {} Try.checked os 3 .any (Rows.fnExactRunSpec.pre6 enc Try.prog Try.f3 Rows.fnExactRunRow.domain false) (Rows.fnExactRunSpec.post enc Try.prog Try.f3 false true false false) := by
  refine returnsInHanded_of_change (C := Try.checked) own started (by kernel_rfl) Try.func3
    (ChangeSpec.witness6 (enc := enc) (C := Try.checked) false ⟨#[], #[.agg #[.int .i64 0, .int .i64 0, .bool false, .slice none 0 0], .int .i64 0], []⟩ 8 (by kernel_rfl) (by kernel_rfl) (by kernel_rfl) (by kernel_rfl)) ?_
  intro W base args ds gs before hval0 hW hcnd _
  have hval : ∀ (j : Nat) t v, Try.f3.params[j]? = some t → args[j]? = some v → Value.okWide Try.prog W .any base t v := hval0
  have hW' := hW
  obtain ⟨p, q, hA0, hV, rfl, hfz, hnd⟩ := hW
  have hA : DataW.TrodAll enc Try.prog W 0 (fun _ => true) true Try.f3.params.toList args.toList ds p := hA0
  rw [Try.params3] at hA hval
  obtain ⟨v0, vs0, d0, ds0, p0, q0, hargs, rfl, rfl, h0, r0⟩ := trodAll_cons hA
  obtain ⟨v1, vs1, d1, ds1, p1, q1, rfl, rfl, rfl, h1, r1⟩ := trodAll_cons r0
  obtain ⟨rfl, rfl, rfl⟩ := trodAll_nil r1
  obtain rfl : args = #[v0, v1] := by cases args; simp_all
  obtain ⟨rfl, rfl⟩ := trodVars_none hV
  have k0 := h0
  have lt0 : ∀ x ∈ p0, x.block < W.heap.size := by obtain ⟨m, hm⟩ := k0; exact DataW.trod_lt m _ _ _ hm
  obtain ⟨cL0, cG0, cH0, cS0, yL0, yG0, yH0, yS0, m0, rfl, -, -, hL0, hG0, hH0, hS0⟩ := Joins.open_agg4 Try.underlying24 (by kernel_rfl) (show Try.prog.cellsOf 24 = 4 by kernel_rfl) (hval 0 24 v0 rfl rfl) h0
  obtain ⟨L0, eL0, -, wL0⟩ := DataW.trod_int Try.underlying3 hL0
  obtain ⟨G0, eG0, -, wG0⟩ := DataW.trod_int Try.underlying3 hG0
  obtain ⟨H0, eH0, -⟩ := DataW.trod_bool Try.underlying4 hH0
  simp only [List.cons.injEq, and_true] at eL0 eG0 eH0
  subst eL0 eG0 eH0
  obtain ⟨ps0, n0, c0, rfl⟩ : ∃ ps n c, cS0 = .slice ps n c := by
    rcases Go.Deep.open_slice Try.underlying22 hS0 with ⟨e, -⟩ | ⟨a, l, c, _, _, _, _, e, -⟩
    · simp at e; exact ⟨_, _, _, e⟩
    · simp at e; exact ⟨_, _, _, e⟩
  obtain ⟨g0, o0, z0, nc0, cm0, fl0, -⟩ := open_rows Try.underlying22 Try.underlying135 (by kernel_rfl) (show Try.prog.cellsOf 135 = 3 by kernel_rfl) rfl (by decide) Try.underlying3 (by kernel_rfl) hS0
  have k1 := h1
  have lt1 : ∀ x ∈ p1, x.block < W.heap.size := by obtain ⟨m, hm⟩ := k1; exact DataW.trod_lt m _ _ _ hm
  obtain ⟨a1, rfl, -, -, w1⟩ := open_int Try.underlying3 (hval 1 3 v1 rfl rfl) h1
  clear hA0 hval0
  refine (walk L0 G0 H0 ps0 c0 n0 z0 a1 W (Nat.le_trans nc0 cm0) ⟨_, _, _, _, rfl, nc0, fl0⟩ wL0 wG0 w1).mono fun e W' ⟨he, bel⟩ => ?_
  subst he
  exact ⟨_, rfl, _, _, _, [], _, [], hW', trodAll_mk1 (shut_bool Try.underlying4 _), (trodAll_cons_mk (Below.trod laidOut (by kernel_rfl) (of_decide_eq_true (by kernel_rfl)) k0 bel lt0) (trodAll_cons_mk (Below.trod laidOut (by kernel_rfl) (of_decide_eq_true (by kernel_rfl)) k1 bel lt1) trodAll_mk0)), rfl, bel.frame _, fun h => by cases h⟩

theorem over : Rows.fnExactRunRow.holds Try.pinned (OpenSpec.ofChange Rows.fnExactRunSpec) :=
  OpenClaim.holds_of_wide 3 Try.f3 rfl rfl rfl rfl rfl rfl rfl ⟨rfl, rfl, rfl, rfl, rfl⟩ rfl rfl rfl rfl rfl (by kernel_rfl) Try.func3 (by kernel_rfl)
    (of_decide_eq_true (by kernel_rfl)) (by unfold Func.isWrapper; first | (rw [if_pos (by decide +kernel)]; kernel_rfl) | (rw [if_neg (by decide +kernel)]; exact ⟨rfl, rfl⟩))
    (fun os started H enc _ => lifted os started H enc)

/-- The statement. -/
theorem proved : Rows.FnExactRunSaid := over
#print axioms proved
end Go.Proofs.Ytobcgidakbbhpab.fnExactRun
