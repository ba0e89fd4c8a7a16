/- For all arguments the exact law of Windows returns true, and the arguments read as before. No condition. -/
import Derived.Test.YtopkdkehkdhmgaaRows
import Derived.Test.YtopkdkehkdhmgaaOpenV
import Derived.Test.YtopkdkehkdhmgaaRowExpect
import Derived.Test.YtopkdkehkdhmgaaBeltLawV
import Derived.Test.YtopkdkehkdhmgaaWinV
import Derived.Deep.CutRange
import Derived.Deep.RegionWith
import Derived.OpenShut
import Derived.ChangeOld
import Derived.Lib.SmallJoins
namespace Go.Proofs.Ytopkdkehkdhmgaa.fnExactWindows
open Go.ChangeShapes Go.WideShapes Go.ChangeAt Go.RowKit
set_option linter.unusedVariables false

set_option maxRecDepth 100000 in
set_option maxHeartbeats 4000000 in
theorem walk (L G : Int) (H : Bool) (p0 : Option Addr) (c0 : Nat) (n0 : Nat) (z0 : Nat → Int) (a1 : Int) (a2 : Int) (a3 : Int) (w : World) (m0 : n0 ≤ maxLen) (r0 : Rd w (.slice p0 n0 c0) n0 (n0 * 3) z0) (wL : (Lit.int .i64 L).wf = true) (wG : (Lit.int .i64 G).wf = true) (w1 : (Lit.int .i64 a1).wf = true) (w2 : (Lit.int .i64 a2).wf = true) (w3 : (Lit.int .i64 a3).wf = true) :
    Calls Try.prog 12 #[.agg #[.int .i64 L, .int .i64 G, .bool H, (.slice p0 n0 c0)], .int .i64 a1, .int .i64 a2, .int .i64 a3] w fun e w' => e = .returned (.bool true) ∧ Below w.heap.size w w' := by
  have BW := Lib.hid (Below.refl w.heap.size w)
  have R0 := Lib.hid r0
  clear r0
  have hsz0 := Lib.hid (fun W (hW : Below w.heap.size w W) => szBelt_v n0 (.slice p0 n0 c0) (1048576) (by omega) m0 (n0 * 3) z0 L G H W (R0.out.later hW))
  by_cases hn0 : n0 ≤ 1048576
  rotate_left
  · simp only [if_neg hn0] at hsz0
    go_enter Try.func12, Try.ntmps12
    go_wp2_with fail
    refine (hsz0.out _ (by repeat (first | exact Below.refl _ _ | refine Below.alloc ?_ (by simp <;> omega) _ | refine Below.drew ?_))).mono ?_
    rintro e wz ⟨rfl, hbz⟩
    have hbz := below_via hbz (B := w.heap.size) (w := w) (by repeat (first | exact Below.refl _ _ | refine Below.alloc ?_ (by simp <;> omega) _ | refine Below.drew ?_)) (by simp <;> omega)
    go_wp2_with fail
    go_ret
    exact ⟨rfl, hbz⟩
  simp only [if_pos hn0] at hsz0
  have hN0 : n0 ≤ 1048576 := by omega
  obtain ⟨N0, Z0, B1, hL0, hS, hI⟩ : ∃ (N0 : Nat) (Z0 : Nat → Int) (B1 : Bool), N0 ≤ 1048576 ∧ Hid (∀ (W : World) (up0 : Option Addr) (uc0 : Nat), Rd W (.slice up0 n0 uc0) n0 (n0 * 3) z0 → Calls Try.prog 44 #[.agg #[.int .i64 L, .int .i64 G, .bool H, (.slice up0 n0 uc0)], .int .i64 a1, .int .i64 a2, .int .i64 a3] W fun e w' => ∃ y0, e = .returned (.tuple #[y0, .bool B1]) ∧ Own w' W.heap.size w'.heap.size y0 N0 (N0 * 3) Z0 ∧ Below W.heap.size W w') ∧ Hid (∀ (W : World) (up0 : Option Addr) (uc0 : Nat), Rd W (.slice up0 n0 uc0) n0 (n0 * 3) z0 → Calls Try.prog 46 #[.agg #[.int .i64 L, .int .i64 G, .bool H, (.slice up0 n0 uc0)], .int .i64 a1, .int .i64 a2, .int .i64 a3] W fun e w' => ∃ y0, e = .returned (.tuple #[y0, .bool B1]) ∧ Own w' W.heap.size w'.heap.size y0 N0 (N0 * 3) Z0 ∧ Below W.heap.size W w') := ⟨winN L G n0 z0 a1 a2 a3, winZ n0 z0 a1 a2 a3, winB L G n0 z0 a1 a2 a3, winN_le L G n0 z0 a1 a2 a3 hN0, fun W up0 uc0 h0 => sWindows_v n0 hN0 z0 up0 uc0 L G H a1 a2 a3 W h0, fun W up0 uc0 h0 => iWindows_v n0 hN0 z0 up0 uc0 L G H a1 a2 a3 W h0⟩
  cases B1
  all_goals
    go_enter Try.func12, Try.ntmps12
    have hcon := Lib.hid (fun W (hW : Below w.heap.size w W) => hsz0.out W (BW.out.trans (hW.mono BW.out.size)))
    go_wp2_with fail
    refine (hcon.out _ (by repeat (first | exact Below.refl _ _ | refine Below.alloc ?_ (by simp <;> omega) _ | refine Below.drew ?_))).mono ?_
    clear hcon
    rintro e w1 ⟨rfl, hb⟩
    have cc : Below w.heap.size w w1 := below_via hb (by repeat (first | exact Below.refl _ _ | refine Below.alloc ?_ (by simp <;> omega) _ | refine Below.drew ?_)) (by simp <;> omega)
    have szw1 : w.heap.size + 1 ≤ w1.heap.size := by have := hb.size; simp at this; omega
    have XA0 : Hid (w1.heap[w.heap.size]? = some (.cells #[.int .i64 L, .int .i64 G, .bool H, .slice p0 n0 c0] 57 (0, 0))) := (hb.block (w.heap.size) (by simp <;> omega)).trans (heap_new _ _ _ (by simp))
    have BV := Lib.hid (BW.out.trans (cc.mono (by have := BW.out.size; omega)))
    clear BW cc hb
    have BW := BV
    clear BV
    clear hsz0
    obtain ⟨xA00, xA01, xA02, xA03, -, -, -, -⟩ := cells4 XA0.out
    have lA0 : w.heap.size < w1.heap.size := by omega
    have mA0 : w1.heap.size ≠ w.heap.size := by omega
    have hcon := Lib.hid (fun W (hW : Below w1.heap.size w1 W) => toBelt_v n0 hN0 z0 (.slice p0 n0 c0) L G H W (R0.out.later (BW.out.trans (hW.mono (by have := BW.out.size; omega)))))
    go_wp2_with fail
    refine (hcon.out _ (by repeat (first | exact Below.refl _ _ | refine Below.alloc ?_ (by simp <;> omega) _ | refine Below.drew ?_))).mono ?_
    clear hcon
    rintro e w2 ⟨pA0, cA0, rfl, hr, hb⟩
    clear xA00 xA01 xA02 xA03 lA0 mA0
    have cc : Below w1.heap.size w1 w2 := below_via hb (by repeat (first | exact Below.refl _ _ | refine Below.alloc ?_ (by simp <;> omega) _ | refine Below.drew ?_)) (by simp <;> omega)
    have szw2 : w1.heap.size ≤ w2.heap.size := cc.size
    have YA0 := Lib.hid ((cc.block (w.heap.size) (by omega)).trans XA0.out)
    clear XA0
    have XA0 := YA0
    clear YA0
    have BV := Lib.hid (BW.out.trans (cc.mono (by have := BW.out.size; omega)))
    clear BW cc hb
    have BW := BV
    clear BV
    have OA0 := Lib.hid (hr.wide (show w1.heap.size ≤ _ by simp) (Nat.le_refl _))
    clear hr
    obtain ⟨xA00, xA01, xA02, xA03, -, -, -, -⟩ := cells4 XA0.out
    have lA0 : w.heap.size < w2.heap.size := by omega
    have mA0 : w2.heap.size ≠ w.heap.size := by omega
    have hcon := Lib.hid (fun W (hW : Below w2.heap.size w2 W) => hS.out W pA0 cA0 ((OA0.out.below hW (by omega)).rd (by have := hW.size; omega)))
    go_wp2_with fail
    refine (hcon.out _ (by repeat (first | exact Below.refl _ _ | refine Below.alloc ?_ (by simp <;> omega) _ | refine Below.drew ?_))).mono ?_
    clear hcon
    rintro e w3 ⟨S0, rfl, hr0, hb⟩
    clear xA00 xA01 xA02 xA03 lA0 mA0
    have cc : Below w2.heap.size w2 w3 := below_via hb (by repeat (first | exact Below.refl _ _ | refine Below.alloc ?_ (by simp <;> omega) _ | refine Below.drew ?_)) (by simp <;> omega)
    have szw3 : w2.heap.size ≤ w3.heap.size := cc.size
    have YA0 := Lib.hid ((cc.block (w.heap.size) (by omega)).trans XA0.out)
    clear XA0
    have XA0 := YA0
    clear YA0
    have BV := Lib.hid (BW.out.trans (cc.mono (by have := BW.out.size; omega)))
    clear OA0 BW cc hb
    have BW := BV
    clear BV
    have OS0 := Lib.hid (hr0.wide (show w2.heap.size ≤ _ by simp) (Nat.le_refl _))
    clear hr0
    obtain ⟨xA00, xA01, xA02, xA03, -, -, -, -⟩ := cells4 XA0.out
    have lA0 : w.heap.size < w3.heap.size := by omega
    have mA0 : w3.heap.size ≠ w.heap.size := by omega
    have hcon := Lib.hid (fun W (hW : Below w3.heap.size w3 W) => toBelt_v n0 hN0 z0 (.slice p0 n0 c0) L G H W (R0.out.later (BW.out.trans (hW.mono (by have := BW.out.size; omega)))))
    go_wp2_with fail
    refine (hcon.out _ (by repeat (first | exact Below.refl _ _ | refine Below.alloc ?_ (by simp <;> omega) _ | refine Below.drew ?_))).mono ?_
    clear hcon
    rintro e w4 ⟨pX0, cX0, rfl, hr, hb⟩
    clear xA00 xA01 xA02 xA03 lA0 mA0
    have cc : Below w3.heap.size w3 w4 := below_via hb (by repeat (first | exact Below.refl _ _ | refine Below.alloc ?_ (by simp <;> omega) _ | refine Below.drew ?_)) (by simp <;> omega)
    have szw4 : w3.heap.size ≤ w4.heap.size := cc.size
    have YA0 := Lib.hid ((cc.block (w.heap.size) (by omega)).trans XA0.out)
    clear XA0
    have XA0 := YA0
    clear YA0
    have PS0 := Lib.hid (OS0.out.below cc (by omega))
    have BV := Lib.hid (BW.out.trans (cc.mono (by have := BW.out.size; omega)))
    clear OS0 BW cc hb
    have OS0 := PS0
    clear PS0
    have BW := BV
    clear BV
    have OX0 := Lib.hid (hr.wide (show w3.heap.size ≤ _ by simp) (Nat.le_refl _))
    clear hr
    obtain ⟨xA00, xA01, xA02, xA03, -, -, -, -⟩ := cells4 XA0.out
    have lA0 : w.heap.size < w4.heap.size := by omega
    have mA0 : w4.heap.size ≠ w.heap.size := by omega
    have hcon := Lib.hid (fun W (hW : Below w4.heap.size w4 W) => hI.out W pX0 cX0 ((OX0.out.below hW (by omega)).rd (by have := hW.size; omega)))
    go_wp2_with fail
    refine (hcon.out _ (by repeat (first | exact Below.refl _ _ | refine Below.alloc ?_ (by simp <;> omega) _ | refine Below.drew ?_))).mono ?_
    clear hcon
    rintro e w5 ⟨G0, rfl, hr0, hb⟩
    clear xA00 xA01 xA02 xA03 lA0 mA0
    have cc : Below w4.heap.size w4 w5 := below_via hb (by repeat (first | exact Below.refl _ _ | refine Below.alloc ?_ (by simp <;> omega) _ | refine Below.drew ?_)) (by simp <;> omega)
    have szw5 : w4.heap.size + 1 ≤ w5.heap.size := by have := hb.size; simp at this; omega
    have YA0 := Lib.hid ((cc.block (w.heap.size) (by omega)).trans XA0.out)
    have XX0 : Hid (w5.heap[w4.heap.size]? = some (.cells #[.int .i64 L, .int .i64 G, .bool H, .slice pX0 n0 cX0] 63 (0, 0))) := (hb.block (w4.heap.size) (by simp <;> omega)).trans (heap_new _ _ _ (by simp))
    clear XA0
    have XA0 := YA0
    clear YA0
    have PS0 := Lib.hid (OS0.out.below cc (by omega))
    have PX0 := Lib.hid (OX0.out.below cc (by omega))
    have BV := Lib.hid (BW.out.trans (cc.mono (by have := BW.out.size; omega)))
    clear OS0 OX0 BW cc hb
    have OS0 := PS0
    clear PS0
    have OX0 := PX0
    clear PX0
    have BW := BV
    clear BV
    have OG0 := Lib.hid (hr0.wide (show w4.heap.size + 1 ≤ _ by simp) (Nat.le_refl _))
    clear hr0
    obtain ⟨xA00, xA01, xA02, xA03, -, -, -, -⟩ := cells4 XA0.out
    have lA0 : w.heap.size < w5.heap.size := by omega
    have mA0 : w5.heap.size ≠ w.heap.size := by omega
    obtain ⟨xX00, xX01, xX02, xX03, -, -, -, -⟩ := cells4 XX0.out
    have lX0 : w4.heap.size < w5.heap.size := by omega
    have mX0 : w5.heap.size ≠ w4.heap.size := by omega
    have hcon := Lib.hid (fun W (hW : Below w5.heap.size w5 W) => eqExpectS_v N0 hL0 (Z0) G0 S0 W ((OG0.out.below hW (by omega)).rd (by have := hW.size; omega)) ((OS0.out.below hW (by omega)).rd (by have := hW.size; omega)))
    go_wp2_with fail
    refine (hcon.out _ (by repeat (first | exact Below.refl _ _ | refine Below.alloc ?_ (by simp <;> omega) _ | refine Below.drew ?_))).mono ?_
    clear hcon
    rintro e w6 ⟨rfl, hb⟩
    clear xA00 xA01 xA02 xA03 xX00 xX01 xX02 xX03 lA0 mA0 lX0 mX0
    have cc : Below w5.heap.size w5 w6 := below_via hb (by repeat (first | exact Below.refl _ _ | refine Below.alloc ?_ (by simp <;> omega) _ | refine Below.drew ?_)) (by simp <;> omega)
    have szw6 : w5.heap.size ≤ w6.heap.size := cc.size
    have YA0 := Lib.hid ((cc.block (w.heap.size) (by omega)).trans XA0.out)
    have YX0 := Lib.hid ((cc.block (w4.heap.size) (by omega)).trans XX0.out)
    clear XA0
    have XA0 := YA0
    clear YA0
    clear XX0
    have XX0 := YX0
    clear YX0
    have PS0 := Lib.hid (OS0.out.below cc (by omega))
    have PX0 := Lib.hid (OX0.out.below cc (by omega))
    have PG0 := Lib.hid (OG0.out.below cc (by omega))
    have BV := Lib.hid (BW.out.trans (cc.mono (by have := BW.out.size; omega)))
    clear OS0 OX0 OG0 BW cc hb
    have OS0 := PS0
    clear PS0
    have OX0 := PX0
    clear PX0
    have OG0 := PG0
    clear PG0
    have BW := BV
    clear BV
    obtain ⟨xA00, xA01, xA02, xA03, -, -, -, -⟩ := cells4 XA0.out
    have lA0 : w.heap.size < w6.heap.size := by omega
    have mA0 : w6.heap.size ≠ w.heap.size := by omega
    obtain ⟨xX00, xX01, xX02, xX03, -, -, -, -⟩ := cells4 XX0.out
    have lX0 : w4.heap.size < w6.heap.size := by omega
    have mX0 : w6.heap.size ≠ w4.heap.size := by omega
    have hto := Lib.hid (fun W (hW : Below w6.heap.size w6 W) => toBelt_v n0 hN0 z0 (.slice p0 n0 c0) L G H W (R0.out.later (BW.out.trans (hW.mono (by have := BW.out.size; omega)))))
    have heq := Lib.hid (fun W (hW : Below w6.heap.size w6 W) (p7 : Option Addr) (c7 : Nat) (h7 : Rd W (.slice p7 n0 c7) n0 (n0 * 3) z0) => eqBelt_v n0 hN0 z0 (.slice pX0 n0 cX0) (.slice p7 n0 c7) L G H W ((OX0.out.below hW (by omega)).rd (by have := hW.size; omega)) h7)
    go_upto_region 10 with fail
    go_cut [57] from 53 to 57 (fun sr wx => sr = .bool false ∧ Below w6.heap.size w6 wx)
    case first =>
      go_region_with (first | (go_at_call 45; refine (hto.out _ (by repeat (first | exact Below.refl _ _ | refine Below.alloc ?_ (by simp <;> omega) _ | refine Below.drew ?_))).mono ?_; rintro e w7 ⟨p7, c7, rfl, hr7, hb7⟩; have xbX07 := (hb7.block (w4.heap.size) (by simp <;> omega)).trans XX0.out; obtain ⟨yX00, yX01, yX02, yX03, -, -, -, -⟩ := cells4 xbX07; clear xbX07) | (go_at_call 47; refine (heq.out _ (below_via hb7 (by repeat (first | exact Below.refl _ _ | refine Below.alloc ?_ (by simp <;> omega) _ | refine Below.drew ?_)) (by simp <;> omega)) p7 c7 (hr7.rd (Nat.le_refl _))).mono ?_; rintro e w8 ⟨rfl, hb8⟩))
      all_goals
        have b7 : Below w6.heap.size w6 w7 := below_via hb7 (by repeat (first | exact Below.refl _ _ | refine Below.alloc ?_ (by simp <;> omega) _ | refine Below.drew ?_)) (by simp <;> omega)
        have b8 : Below w6.heap.size w6 w8 := b7.trans (hb8.mono b7.size)
        go_wp2_with fail
        go_meet
        exact ⟨rfl, b8⟩
    case rest =>
      obtain ⟨rfl, hb⟩ := hcut
      clear heq hto
      clear xA00 xA01 xA02 xA03 xX00 xX01 xX02 xX03 lA0 mA0 lX0 mX0
      obtain ⟨w9, rfl⟩ : ∃ x, x = wc := ⟨_, rfl⟩
      have cc : Below w6.heap.size w6 w9 := hb
      have szw9 : w6.heap.size ≤ w9.heap.size := cc.size
      have YA0 := Lib.hid ((cc.block (w.heap.size) (by omega)).trans XA0.out)
      have YX0 := Lib.hid ((cc.block (w4.heap.size) (by omega)).trans XX0.out)
      clear XA0
      have XA0 := YA0
      clear YA0
      clear XX0
      have XX0 := YX0
      clear YX0
      have PS0 := Lib.hid (OS0.out.below cc (by omega))
      have PX0 := Lib.hid (OX0.out.below cc (by omega))
      have PG0 := Lib.hid (OG0.out.below cc (by omega))
      have BV := Lib.hid (BW.out.trans (cc.mono (by have := BW.out.size; omega)))
      clear OS0 OX0 OG0 BW cc hb
      have OS0 := PS0
      clear PS0
      have OX0 := PX0
      clear PX0
      have OG0 := PG0
      clear PG0
      have BW := BV
      clear BV
      obtain ⟨kX0, hkX0⟩ : ∃ m : Nat, m = 1 + n0 * 3 := ⟨_, rfl⟩
      have bkX0 : kX0 ≤ 100000000 := by omega
      have HkX0 := Lib.hid hkX0
      clear hkX0
      obtain ⟨xA00, xA01, xA02, xA03, -, -, -, -⟩ := cells4 XA0.out
      have lA0 : w.heap.size < w9.heap.size := by omega
      have mA0 : w9.heap.size ≠ w.heap.size := by omega
      obtain ⟨xX00, xX01, xX02, xX03, -, -, -, -⟩ := cells4 XX0.out
      have lX0 : w4.heap.size < w9.heap.size := by omega
      have mX0 : w9.heap.size ≠ w4.heap.size := by omega
      have hcon := Lib.hid (fun W (hW : Below w9.heap.size w9 W) => markBelt_v (1) n0 hN0 (by omega) (z0) (w3.heap.size) (w4.heap.size) (.slice pX0 n0 cX0) L G H W (by have := hW.size; omega) (OX0.out.below hW (by omega)))
      go_wp2_with fail
      refine (hcon.out _ (by repeat (first | exact Below.refl _ _ | refine Below.alloc ?_ (by simp <;> omega) _ | refine Below.drew ?_))).mono ?_
      clear hcon
      rw [← HkX0.out]
      rintro e w10 ⟨rfl, hr, hb⟩
      clear xA00 xA01 xA02 xA03 xX00 xX01 xX02 xX03 lA0 mA0 lX0 mX0
      have cc : Touch (w3.heap.size) (w4.heap.size) w9 w10 := (Touch.of_below (by repeat (first | exact Below.refl _ _ | refine Below.alloc ?_ (by simp <;> omega) _ | refine Below.drew ?_))).trans hb
      have szw10 : w9.heap.size ≤ w10.heap.size := cc.size
      have YA0 := Lib.hid ((cc.block (w.heap.size) (by omega) (by omega)).trans XA0.out)
      have YX0 := Lib.hid ((cc.block (w4.heap.size) (by omega) (by omega)).trans XX0.out)
      clear XA0
      have XA0 := YA0
      clear YA0
      clear XX0
      have XX0 := YX0
      clear YX0
      have PS0 := Lib.hid (OS0.out.touch cc (by omega) (by omega))
      have PG0 := Lib.hid (OG0.out.touch cc (by omega) (by omega))
      have BV := Lib.hid (BW.out.trans (cc.below (by have := BW.out.size; omega) (by have := BW.out.size; omega)))
      clear OS0 OG0 OX0 BW cc hb
      have OS0 := PS0
      clear PS0
      have OG0 := PG0
      clear PG0
      have BW := BV
      clear BV
      have OX0 := Lib.hid hr
      clear hr
      clear OX0
      obtain ⟨xA00, xA01, xA02, xA03, -, -, -, -⟩ := cells4 XA0.out
      have lA0 : w.heap.size < w10.heap.size := by omega
      have mA0 : w10.heap.size ≠ w.heap.size := by omega
      obtain ⟨xX00, xX01, xX02, xX03, -, -, -, -⟩ := cells4 XX0.out
      have lX0 : w4.heap.size < w10.heap.size := by omega
      have mX0 : w10.heap.size ≠ w4.heap.size := by omega
      have hcon := Lib.hid (fun W (hW : Below w10.heap.size w10 W) => eqExpectS_v N0 hL0 (Z0) G0 S0 W ((OG0.out.below hW (by omega)).rd (by have := hW.size; omega)) ((OS0.out.below hW (by omega)).rd (by have := hW.size; omega)))
      go_wp2_with fail
      refine (hcon.out _ (by repeat (first | exact Below.refl _ _ | refine Below.alloc ?_ (by simp <;> omega) _ | refine Below.drew ?_))).mono ?_
      clear hcon
      rintro e w11 ⟨rfl, hb⟩
      clear xA00 xA01 xA02 xA03 xX00 xX01 xX02 xX03 lA0 mA0 lX0 mX0
      have cc : Below w10.heap.size w10 w11 := below_via hb (by repeat (first | exact Below.refl _ _ | refine Below.alloc ?_ (by simp <;> omega) _ | refine Below.drew ?_)) (by simp <;> omega)
      have szw11 : w10.heap.size ≤ w11.heap.size := cc.size
      have YA0 := Lib.hid ((cc.block (w.heap.size) (by omega)).trans XA0.out)
      have YX0 := Lib.hid ((cc.block (w4.heap.size) (by omega)).trans XX0.out)
      clear XA0
      have XA0 := YA0
      clear YA0
      clear XX0
      have XX0 := YX0
      clear YX0
      have PS0 := Lib.hid (OS0.out.below cc (by omega))
      have PG0 := Lib.hid (OG0.out.below cc (by omega))
      have BV := Lib.hid (BW.out.trans (cc.mono (by have := BW.out.size; omega)))
      clear OS0 OG0 BW cc hb
      have OS0 := PS0
      clear PS0
      have OG0 := PG0
      clear PG0
      have BW := BV
      clear BV
      obtain ⟨kG0, hkG0⟩ : ∃ m : Nat, m = 1 + N0 * 3 := ⟨_, rfl⟩
      have bkG0 : kG0 ≤ 100000000 := by omega
      have HkG0 := Lib.hid hkG0
      clear hkG0
      obtain ⟨xA00, xA01, xA02, xA03, -, -, -, -⟩ := cells4 XA0.out
      have lA0 : w.heap.size < w11.heap.size := by omega
      have mA0 : w11.heap.size ≠ w.heap.size := by omega
      obtain ⟨xX00, xX01, xX02, xX03, -, -, -, -⟩ := cells4 XX0.out
      have lX0 : w4.heap.size < w11.heap.size := by omega
      have mX0 : w11.heap.size ≠ w4.heap.size := by omega
      have hcon := Lib.hid (fun W (hW : Below w11.heap.size w11 W) => markExpectS_v (1) N0 hL0 (by omega) (Z0) (w4.heap.size + 1) (w5.heap.size) G0 W (OG0.out.below hW (by omega)))
      go_wp2_with fail
      refine (hcon.out _ (by repeat (first | exact Below.refl _ _ | refine Below.alloc ?_ (by simp <;> omega) _ | refine Below.drew ?_))).mono ?_
      clear hcon
      rw [← HkG0.out]
      rintro e w12 ⟨rfl, hr, hb⟩
      clear xA00 xA01 xA02 xA03 xX00 xX01 xX02 xX03 lA0 mA0 lX0 mX0
      have cc : Touch (w4.heap.size + 1) (w5.heap.size) w11 w12 := (Touch.of_below (by repeat (first | exact Below.refl _ _ | refine Below.alloc ?_ (by simp <;> omega) _ | refine Below.drew ?_))).trans hb
      have szw12 : w11.heap.size ≤ w12.heap.size := cc.size
      have YA0 := Lib.hid ((cc.block (w.heap.size) (by omega) (by omega)).trans XA0.out)
      have YX0 := Lib.hid ((cc.block (w4.heap.size) (by omega) (by omega)).trans XX0.out)
      clear XA0
      have XA0 := YA0
      clear YA0
      clear XX0
      have XX0 := YX0
      clear YX0
      have PS0 := Lib.hid (OS0.out.touch cc (by omega) (by omega))
      have BV := Lib.hid (BW.out.trans (cc.below (by have := BW.out.size; omega) (by have := BW.out.size; omega)))
      clear OS0 OG0 BW cc hb
      have OS0 := PS0
      clear PS0
      have BW := BV
      clear BV
      have OG0 := Lib.hid hr
      clear hr
      obtain ⟨xA00, xA01, xA02, xA03, -, -, -, -⟩ := cells4 XA0.out
      have lA0 : w.heap.size < w12.heap.size := by omega
      have mA0 : w12.heap.size ≠ w.heap.size := by omega
      obtain ⟨xX00, xX01, xX02, xX03, -, -, -, -⟩ := cells4 XX0.out
      have lX0 : w4.heap.size < w12.heap.size := by omega
      have mX0 : w12.heap.size ≠ w4.heap.size := by omega
      have hcon := Lib.hid (fun W (hW : Below w12.heap.size w12 W) => heldExpectS_v (1) N0 hL0 (by omega) G0 W ((OG0.out.below hW (by omega)).rd (by have := hW.size; omega)))
      go_wp2_with fail
      refine (hcon.out _ (by repeat (first | exact Below.refl _ _ | refine Below.alloc ?_ (by simp <;> omega) _ | refine Below.drew ?_))).mono ?_
      clear hcon
      rw [← HkG0.out]
      rintro e w13 ⟨rfl, hb⟩
      clear xA00 xA01 xA02 xA03 xX00 xX01 xX02 xX03 lA0 mA0 lX0 mX0
      have cc : Below w12.heap.size w12 w13 := below_via hb (by repeat (first | exact Below.refl _ _ | refine Below.alloc ?_ (by simp <;> omega) _ | refine Below.drew ?_)) (by simp <;> omega)
      have szw13 : w12.heap.size ≤ w13.heap.size := cc.size
      have YA0 := Lib.hid ((cc.block (w.heap.size) (by omega)).trans XA0.out)
      have YX0 := Lib.hid ((cc.block (w4.heap.size) (by omega)).trans XX0.out)
      clear XA0
      have XA0 := YA0
      clear YA0
      clear XX0
      have XX0 := YX0
      clear YX0
      have PS0 := Lib.hid (OS0.out.below cc (by omega))
      have PG0 := Lib.hid (OG0.out.below cc (by omega))
      have BV := Lib.hid (BW.out.trans (cc.mono (by have := BW.out.size; omega)))
      clear OS0 OG0 BW cc hb
      have OS0 := PS0
      clear PS0
      have OG0 := PG0
      clear PG0
      have BW := BV
      clear BV
      obtain ⟨xA00, xA01, xA02, xA03, -, -, -, -⟩ := cells4 XA0.out
      have lA0 : w.heap.size < w13.heap.size := by omega
      have mA0 : w13.heap.size ≠ w.heap.size := by omega
      obtain ⟨xX00, xX01, xX02, xX03, -, -, -, -⟩ := cells4 XX0.out
      have lX0 : w4.heap.size < w13.heap.size := by omega
      have mX0 : w13.heap.size ≠ w4.heap.size := by omega
      have hcon := Lib.hid (fun W (hW : Below w13.heap.size w13 W) => toBelt_v n0 hN0 z0 (.slice p0 n0 c0) L G H W (R0.out.later (BW.out.trans (hW.mono (by have := BW.out.size; omega)))))
      go_wp2_with fail
      refine (hcon.out _ (by repeat (first | exact Below.refl _ _ | refine Below.alloc ?_ (by simp <;> omega) _ | refine Below.drew ?_))).mono ?_
      clear hcon
      rintro e w14 ⟨pE0, cE0, rfl, hr, hb⟩
      clear xA00 xA01 xA02 xA03 xX00 xX01 xX02 xX03 lA0 mA0 lX0 mX0
      have cc : Below w13.heap.size w13 w14 := below_via hb (by repeat (first | exact Below.refl _ _ | refine Below.alloc ?_ (by simp <;> omega) _ | refine Below.drew ?_)) (by simp <;> omega)
      have szw14 : w13.heap.size ≤ w14.heap.size := cc.size
      have YA0 := Lib.hid ((cc.block (w.heap.size) (by omega)).trans XA0.out)
      have YX0 := Lib.hid ((cc.block (w4.heap.size) (by omega)).trans XX0.out)
      clear XA0
      have XA0 := YA0
      clear YA0
      clear XX0
      have XX0 := YX0
      clear YX0
      have PS0 := Lib.hid (OS0.out.below cc (by omega))
      have PG0 := Lib.hid (OG0.out.below cc (by omega))
      have BV := Lib.hid (BW.out.trans (cc.mono (by have := BW.out.size; omega)))
      clear OS0 OG0 BW cc hb
      have OS0 := PS0
      clear PS0
      have OG0 := PG0
      clear PG0
      have BW := BV
      clear BV
      have OE0 := Lib.hid (hr.wide (show w13.heap.size ≤ _ by simp) (Nat.le_refl _))
      clear hr
      obtain ⟨xA00, xA01, xA02, xA03, -, -, -, -⟩ := cells4 XA0.out
      have lA0 : w.heap.size < w14.heap.size := by omega
      have mA0 : w14.heap.size ≠ w.heap.size := by omega
      obtain ⟨xX00, xX01, xX02, xX03, -, -, -, -⟩ := cells4 XX0.out
      have lX0 : w4.heap.size < w14.heap.size := by omega
      have mX0 : w14.heap.size ≠ w4.heap.size := by omega
      have hcon := Lib.hid (fun W (hW : Below w14.heap.size w14 W) => hI.out W pE0 cE0 ((OE0.out.below hW (by omega)).rd (by have := hW.size; omega)))
      go_wp2_with fail
      refine (hcon.out _ (by repeat (first | exact Below.refl _ _ | refine Below.alloc ?_ (by simp <;> omega) _ | refine Below.drew ?_))).mono ?_
      clear hcon
      rintro e w15 ⟨K0, rfl, hr0, hb⟩
      clear xA00 xA01 xA02 xA03 xX00 xX01 xX02 xX03 lA0 mA0 lX0 mX0
      have cc : Below w14.heap.size w14 w15 := below_via hb (by repeat (first | exact Below.refl _ _ | refine Below.alloc ?_ (by simp <;> omega) _ | refine Below.drew ?_)) (by simp <;> omega)
      have szw15 : w14.heap.size ≤ w15.heap.size := cc.size
      have YA0 := Lib.hid ((cc.block (w.heap.size) (by omega)).trans XA0.out)
      have YX0 := Lib.hid ((cc.block (w4.heap.size) (by omega)).trans XX0.out)
      clear XA0
      have XA0 := YA0
      clear YA0
      clear XX0
      have XX0 := YX0
      clear YX0
      have PS0 := Lib.hid (OS0.out.below cc (by omega))
      have PG0 := Lib.hid (OG0.out.below cc (by omega))
      have BV := Lib.hid (BW.out.trans (cc.mono (by have := BW.out.size; omega)))
      clear OS0 OG0 OE0 BW cc hb
      have OS0 := PS0
      clear PS0
      have OG0 := PG0
      clear PG0
      have BW := BV
      clear BV
      have OK0 := Lib.hid (hr0.wide (show w14.heap.size ≤ _ by simp) (Nat.le_refl _))
      clear hr0
      obtain ⟨xA00, xA01, xA02, xA03, -, -, -, -⟩ := cells4 XA0.out
      have lA0 : w.heap.size < w15.heap.size := by omega
      have mA0 : w15.heap.size ≠ w.heap.size := by omega
      obtain ⟨xX00, xX01, xX02, xX03, -, -, -, -⟩ := cells4 XX0.out
      have lX0 : w4.heap.size < w15.heap.size := by omega
      have mX0 : w15.heap.size ≠ w4.heap.size := by omega
      have hcon := Lib.hid (fun W (hW : Below w15.heap.size w15 W) => eqExpectS_v N0 hL0 (Z0) K0 S0 W ((OK0.out.below hW (by omega)).rd (by have := hW.size; omega)) ((OS0.out.below hW (by omega)).rd (by have := hW.size; omega)))
      go_wp2_with fail
      refine (hcon.out _ (by repeat (first | exact Below.refl _ _ | refine Below.alloc ?_ (by simp <;> omega) _ | refine Below.drew ?_))).mono ?_
      clear hcon
      rintro e w16 ⟨rfl, hb⟩
      clear xA00 xA01 xA02 xA03 xX00 xX01 xX02 xX03 lA0 mA0 lX0 mX0
      have cc : Below w15.heap.size w15 w16 := below_via hb (by repeat (first | exact Below.refl _ _ | refine Below.alloc ?_ (by simp <;> omega) _ | refine Below.drew ?_)) (by simp <;> omega)
      have szw16 : w15.heap.size ≤ w16.heap.size := cc.size
      have YA0 := Lib.hid ((cc.block (w.heap.size) (by omega)).trans XA0.out)
      have YX0 := Lib.hid ((cc.block (w4.heap.size) (by omega)).trans XX0.out)
      clear XA0
      have XA0 := YA0
      clear YA0
      clear XX0
      have XX0 := YX0
      clear YX0
      have PS0 := Lib.hid (OS0.out.below cc (by omega))
      have PG0 := Lib.hid (OG0.out.below cc (by omega))
      have PK0 := Lib.hid (OK0.out.below cc (by omega))
      have BV := Lib.hid (BW.out.trans (cc.mono (by have := BW.out.size; omega)))
      clear OS0 OG0 OK0 BW cc hb
      have OS0 := PS0
      clear PS0
      have OG0 := PG0
      clear PG0
      have OK0 := PK0
      clear PK0
      have BW := BV
      clear BV
      clear OK0
      obtain ⟨xA00, xA01, xA02, xA03, -, -, -, -⟩ := cells4 XA0.out
      have lA0 : w.heap.size < w16.heap.size := by omega
      have mA0 : w16.heap.size ≠ w.heap.size := by omega
      obtain ⟨xX00, xX01, xX02, xX03, -, -, -, -⟩ := cells4 XX0.out
      have lX0 : w4.heap.size < w16.heap.size := by omega
      have mX0 : w16.heap.size ≠ w4.heap.size := by omega
      have hcon := Lib.hid (fun W (hW : Below w16.heap.size w16 W) => heldExpectS_v (1) N0 hL0 (by omega) G0 W ((OG0.out.below hW (by omega)).rd (by have := hW.size; omega)))
      go_wp2_with fail
      refine (hcon.out _ (by repeat (first | exact Below.refl _ _ | refine Below.alloc ?_ (by simp <;> omega) _ | refine Below.drew ?_))).mono ?_
      clear hcon
      rw [← HkG0.out]
      rintro e w17 ⟨rfl, hb⟩
      clear xA00 xA01 xA02 xA03 xX00 xX01 xX02 xX03 lA0 mA0 lX0 mX0
      have cc : Below w16.heap.size w16 w17 := below_via hb (by repeat (first | exact Below.refl _ _ | refine Below.alloc ?_ (by simp <;> omega) _ | refine Below.drew ?_)) (by simp <;> omega)
      have szw17 : w16.heap.size ≤ w17.heap.size := cc.size
      have YA0 := Lib.hid ((cc.block (w.heap.size) (by omega)).trans XA0.out)
      have YX0 := Lib.hid ((cc.block (w4.heap.size) (by omega)).trans XX0.out)
      clear XA0
      have XA0 := YA0
      clear YA0
      clear XX0
      have XX0 := YX0
      clear YX0
      have PS0 := Lib.hid (OS0.out.below cc (by omega))
      have PG0 := Lib.hid (OG0.out.below cc (by omega))
      have BV := Lib.hid (BW.out.trans (cc.mono (by have := BW.out.size; omega)))
      clear OS0 OG0 BW cc hb
      have OS0 := PS0
      clear PS0
      have OG0 := PG0
      clear PG0
      have BW := BV
      clear BV
      obtain ⟨xA00, xA01, xA02, xA03, -, -, -, -⟩ := cells4 XA0.out
      have lA0 : w.heap.size < w17.heap.size := by omega
      have mA0 : w17.heap.size ≠ w.heap.size := by omega
      obtain ⟨xX00, xX01, xX02, xX03, -, -, -, -⟩ := cells4 XX0.out
      have lX0 : w4.heap.size < w17.heap.size := by omega
      have mX0 : w17.heap.size ≠ w4.heap.size := by omega
      go_wp2_with fail
      go_ret
      exact ⟨rfl, by first | exact BW.out | exact BW.out.drew⟩

/-! The row's step. -/
theorem own : ownKnob Try.prog.godebug = none := by kernel_rfl
theorem laidOut : laidOutB Try.prog = true := by kernel_rfl
set_option maxRecDepth 100000 in
theorem lifted (os : Os) (started : os.Started) (H : Type) (enc : TypeId × Value → H) :
    ReturnsInHanded {} Try.checked os 12 .any (Rows.fnExactWindowsSpec.pre6 enc Try.prog Try.f12 Rows.fnExactWindowsRow.domain false) (Rows.fnExactWindowsSpec.post enc Try.prog Try.f12 false true false false) := by
  refine returnsInHanded_of_change (C := Try.checked) own started (by kernel_rfl) Try.func12
    (ChangeSpec.witness6 (enc := enc) (C := Try.checked) false ⟨#[], #[.agg #[.int .i64 0, .int .i64 0, .bool false, .slice none 0 0], .int .i64 0, .int .i64 0, .int .i64 0], []⟩ 8 (by kernel_rfl) (by kernel_rfl) (by kernel_rfl) (by kernel_rfl)) ?_
  intro W base args ds gs before hval0 hW hcnd _
  have hval : ∀ (j : Nat) t v, Try.f12.params[j]? = some t → args[j]? = some v → Value.okWide Try.prog W .any base t v := hval0
  have hW' := hW
  obtain ⟨p, q, hA0, hV, rfl, hfz, hnd⟩ := hW
  have hA : DataW.TrodAll enc Try.prog W 0 (fun _ => true) true Try.f12.params.toList args.toList ds p := hA0
  rw [Try.params12] at hA hval
  obtain ⟨v0, vs0, d0, ds0, p0, q0, hargs, rfl, rfl, h0, r0⟩ := trodAll_cons hA
  obtain ⟨v1, vs1, d1, ds1, p1, q1, rfl, rfl, rfl, h1, r1⟩ := trodAll_cons r0
  obtain ⟨v2, vs2, d2, ds2, p2, q2, rfl, rfl, rfl, h2, r2⟩ := trodAll_cons r1
  obtain ⟨v3, vs3, d3, ds3, p3, q3, rfl, rfl, rfl, h3, r3⟩ := trodAll_cons r2
  obtain ⟨rfl, rfl, rfl⟩ := trodAll_nil r3
  obtain rfl : args = #[v0, v1, v2, v3] := by cases args; simp_all
  obtain ⟨rfl, rfl⟩ := trodVars_none hV
  have k0 := h0
  have lt0 : ∀ x ∈ p0, x.block < W.heap.size := by obtain ⟨m, hm⟩ := k0; exact DataW.trod_lt m _ _ _ hm
  obtain ⟨cL0, cG0, cH0, cS0, yL0, yG0, yH0, yS0, m0, rfl, -, -, hL0, hG0, hH0, hS0⟩ := Joins.open_agg4 Try.underlying57 (by kernel_rfl) (show Try.prog.cellsOf 57 = 4 by kernel_rfl) (hval 0 57 v0 rfl rfl) h0
  obtain ⟨L0, eL0, -, wL0⟩ := DataW.trod_int Try.underlying3 hL0
  obtain ⟨G0, eG0, -, wG0⟩ := DataW.trod_int Try.underlying3 hG0
  obtain ⟨H0, eH0, -⟩ := DataW.trod_bool Try.underlying4 hH0
  simp only [List.cons.injEq, and_true] at eL0 eG0 eH0
  subst eL0 eG0 eH0
  obtain ⟨ps0, n0, c0, rfl⟩ : ∃ ps n c, cS0 = .slice ps n c := by
    rcases Go.Deep.open_slice Try.underlying55 hS0 with ⟨e, -⟩ | ⟨a, l, c, _, _, _, _, e, -⟩
    · simp at e; exact ⟨_, _, _, e⟩
    · simp at e; exact ⟨_, _, _, e⟩
  obtain ⟨g0, o0, z0, nc0, cm0, fl0, -⟩ := open_rows Try.underlying55 Try.underlying120 (by kernel_rfl) (show Try.prog.cellsOf 120 = 3 by kernel_rfl) rfl (by decide) Try.underlying3 (by kernel_rfl) hS0
  have k1 := h1
  have lt1 : ∀ x ∈ p1, x.block < W.heap.size := by obtain ⟨m, hm⟩ := k1; exact DataW.trod_lt m _ _ _ hm
  obtain ⟨a1, rfl, -, -, w1⟩ := open_int Try.underlying3 (hval 1 3 v1 rfl rfl) h1
  have k2 := h2
  have lt2 : ∀ x ∈ p2, x.block < W.heap.size := by obtain ⟨m, hm⟩ := k2; exact DataW.trod_lt m _ _ _ hm
  obtain ⟨a2, rfl, -, -, w2⟩ := open_int Try.underlying3 (hval 2 3 v2 rfl rfl) h2
  have k3 := h3
  have lt3 : ∀ x ∈ p3, x.block < W.heap.size := by obtain ⟨m, hm⟩ := k3; exact DataW.trod_lt m _ _ _ hm
  obtain ⟨a3, rfl, -, -, w3⟩ := open_int Try.underlying3 (hval 3 3 v3 rfl rfl) h3
  clear hA0 hval0
  refine (walk L0 G0 H0 ps0 c0 n0 z0 a1 a2 a3 W (Nat.le_trans nc0 cm0) ⟨_, _, _, _, rfl, nc0, fl0⟩ wL0 wG0 w1 w2 w3).mono fun e W' ⟨he, bel⟩ => ?_
  subst he
  exact ⟨_, rfl, _, _, _, [], _, [], hW', trodAll_mk1 (shut_bool Try.underlying4 _), (trodAll_cons_mk (Below.trod laidOut (by kernel_rfl) (of_decide_eq_true (by kernel_rfl)) k0 bel lt0) (trodAll_cons_mk (Below.trod laidOut (by kernel_rfl) (of_decide_eq_true (by kernel_rfl)) k1 bel lt1) (trodAll_cons_mk (Below.trod laidOut (by kernel_rfl) (of_decide_eq_true (by kernel_rfl)) k2 bel lt2) (trodAll_cons_mk (Below.trod laidOut (by kernel_rfl) (of_decide_eq_true (by kernel_rfl)) k3 bel lt3) trodAll_mk0)))), rfl, bel.frame _, fun h => by cases h⟩

theorem over : Rows.fnExactWindowsRow.holds Try.pinned (OpenSpec.ofChange Rows.fnExactWindowsSpec) :=
  OpenClaim.holds_of_wide 12 Try.f12 rfl rfl rfl rfl rfl rfl rfl ⟨rfl, rfl, rfl, rfl, rfl⟩ rfl rfl rfl rfl rfl (by kernel_rfl) Try.func12 (by kernel_rfl)
    (of_decide_eq_true (by kernel_rfl)) (by unfold Func.isWrapper; first | (rw [if_pos (by decide +kernel)]; kernel_rfl) | (rw [if_neg (by decide +kernel)]; exact ⟨rfl, rfl⟩))
    (fun os started H enc _ => lifted os started H enc)

/-- The statement. -/
theorem proved : Rows.FnExactWindowsSaid := over
#print axioms proved
end Go.Proofs.Ytopkdkehkdhmgaa.fnExactWindows
