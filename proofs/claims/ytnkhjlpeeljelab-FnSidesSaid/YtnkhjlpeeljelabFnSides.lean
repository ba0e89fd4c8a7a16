/- For every code FnSides returns true, and the code reads as before. No condition. -/
import Derived.Test.YtnkhjlpeeljelabRows
import Derived.Test.YtnkhjlpeeljelabBlk
import Derived.Test.YtnkhjlpeeljelabBig
import Derived.Test.YtnkhjlpeeljelabDrawSides
import Derived.Test.YtnkhjlpeeljelabSidesPlain
import Derived.Test.YtnkhjlpeeljelabLayI
import Derived.Test.YtnkhjlpeeljelabLayS
import Derived.Test.YtnkhjlpeeljelabSameBools2
import Derived.OpenShut
import Derived.ChangeOld
import Derived.Lib.SmallJoins
namespace Go.Proofs.Ytnkhjlpeeljelab.fnSides
open Go.ChangeShapes Go.WideShapes Go.ChangeAt Go.RowKit
set_option linter.unusedVariables false

set_option maxRecDepth 100000 in
set_option maxHeartbeats 16000000 in
theorem walk (p : Option Addr) (n cap gc oc : Nat) (w : World) (hn : n ≤ maxLen) (hC : Code w.heap.size n w p gc oc) :
    Calls Try.prog 5 #[.slice p n cap] w fun e w' => e = .returned (.bool true) ∧ Below w.heap.size w w' := by
  have hbg := Lib.hid (big_any p n cap hn w)
  by_cases hbig : 1048576 < n
  · have hd : decide (1048576 < n) = true := decide_eq_true hbig
    simp only [hd] at hbg
    clear hC hbig hd hn
    go_enter Try.func5, Try.ntmps5
    go_wp2_with (go_at_call 6; refine hbg.out.mono ?_; rintro e w' ⟨rfl, rfl⟩)
    go_ret
    exact ⟨rfl, Below.refl _ _⟩
  have hd : decide (1048576 < n) = false := decide_eq_false hbig
  simp only [hd] at hbg
  have hn' : n ≤ 1048576 := by omega
  have HC := Lib.hid hC
  clear hC hbig hd hn
  go_enter Try.func5, Try.ntmps5
  go_wp2_with (go_at_call 6; refine hbg.out.mono ?_; rintro e w' ⟨rfl, rfl⟩)
  refine (DrawLay_any hn' (Below.refl _ _) HC.out).mono ?_
  rintro e w1 ⟨v, q, z, hq, rfl, hr, hb⟩
  have BW1 := Lib.hid hb
  obtain ⟨pv, cv, gv, ov, rfl, hcv, hfv⟩ := hr
  have RV_1 := Lib.hid (show Rd w1 (.slice pv q cv) q q z from ⟨pv, cv, gv, ov, rfl, hcv, hfv⟩)
  clear hb hfv hbg
  have hqm : q ≤ maxLen := by unfold maxLen; omega
  have hLI := Lib.hid (fun W (hW : Rd W (.slice pv q cv) q q z) => iLeastDiff_v q hqm z (.slice pv q cv) W hW)
  have hLS := Lib.hid (fun W (hW : Rd W (.slice pv q cv) q q z) => sLeastDiff_v q hqm z (.slice pv q cv) W hW)
  have hYI := Lib.hid (fun W (hW : Rd W (.slice pv q cv) q q z) => iLay_v q hqm z (.slice pv q cv) W hW)
  have hYS := Lib.hid (fun W (hW : Rd W (.slice pv q cv) q q z) => sLay_v q hqm z (.slice pv q cv) W hW)
  have hSI := Lib.hid (fun W u (m : Nat) (hm : m ≤ maxLen) (b : Nat → Bool) (hW : Rd W (.slice pv q cv) q q z) (hu : RdB W u m b) => iSide_v q hqm z (.slice pv q cv) m hm b u W hW hu)
  by_cases hws : wsOk 0 q z
  rotate_left
  · skip
    rw [show ldI q z = -1 from if_neg hws] at hLI hLS
    rw [show layN q z = 0 from if_neg hws] at hYI hYS
    obtain ⟨Z, hZ⟩ : ∃ Z, Z = sdl q (layK q z) := ⟨_, rfl⟩
    rw [← hZ] at hYI hYS
    obtain ⟨N, hN⟩ : ∃ N : Nat, N = 0 := ⟨_, rfl⟩
    rw [← hN] at hYI hYS
    have hNm : N ≤ maxLen := by rw [hN]; exact Nat.zero_le _
    have hN0 : ((N : Int) == 0) = true := by rw [hN]; rfl
    clear hZ hws hN
    go_wp2_with fail
    refine (hLI.out _ RV_1.out).mono ?_
    rintro e w2 ⟨rfl, hb⟩
    have E2 : Below w1.heap.size w1 w2 := below_via hb (by repeat (first | exact Below.refl _ _ | refine Below.alloc ?_ (by simp <;> omega) _ | refine Below.setCell ?_ (by simp <;> omega) _ | refine Below.drew ?_)) (by first | (simp; done) | omega | (simp; omega))
    have sz2 : w1.heap.size ≤ w2.heap.size := E2.size
    have BW2 := Lib.hid (BW1.out.trans (E2.mono BW1.out.size))
    have RV_2 := Lib.hid (RV_1.out.later E2)
    clear hb E2 BW1 RV_1
    go_wp2_with fail
    refine (hYI.out _ RV_2.out).mono ?_
    rintro e w3 ⟨vl, rfl, OL, hb⟩
    have E3 : Below w2.heap.size w2 w3 := below_via hb (by repeat (first | exact Below.refl _ _ | refine Below.alloc ?_ (by simp <;> omega) _ | refine Below.setCell ?_ (by simp <;> omega) _ | refine Below.drew ?_)) (by first | (simp; done) | omega | (simp; omega))
    have sz3 : w2.heap.size ≤ w3.heap.size := E3.size
    have BW3 := Lib.hid (BW2.out.trans (E3.mono BW2.out.size))
    have RV_3 := Lib.hid (RV_2.out.later E3)
    have OL_3 := Lib.hid OL
    clear hb E3 BW2 RV_2 OL
    obtain ⟨pl, cl, gl, ol, rfl, -, -, -⟩ := OL_3.out
    go_wp2_with fail
    refine (hLS.out _ RV_3.out).mono ?_
    rintro e w4 ⟨rfl, hb⟩
    have E4 : Below w3.heap.size w3 w4 := below_via hb (by repeat (first | exact Below.refl _ _ | refine Below.alloc ?_ (by simp <;> omega) _ | refine Below.setCell ?_ (by simp <;> omega) _ | refine Below.drew ?_)) (by first | (simp; done) | omega | (simp; omega))
    have sz4 : w3.heap.size ≤ w4.heap.size := E4.size
    have BW4 := Lib.hid (BW3.out.trans (E4.mono BW3.out.size))
    have RV_4 := Lib.hid (RV_3.out.later E4)
    have OL_4 := Lib.hid (OL_3.out.below E4 (by first | exact Nat.le_refl _ | omega))
    clear hb E4 BW3 RV_3 OL_3
    go_wp2_with fail
    refine (hYS.out _ RV_4.out).mono ?_
    rintro e w5 ⟨vm, rfl, OM, hb⟩
    have E5 : Below w4.heap.size w4 w5 := below_via hb (by repeat (first | exact Below.refl _ _ | refine Below.alloc ?_ (by simp <;> omega) _ | refine Below.setCell ?_ (by simp <;> omega) _ | refine Below.drew ?_)) (by first | (simp; done) | omega | (simp; omega))
    have sz5 : w4.heap.size ≤ w5.heap.size := E5.size
    have BW5 := Lib.hid (BW4.out.trans (E5.mono BW4.out.size))
    have RV_5 := Lib.hid (RV_4.out.later E5)
    have OL_5 := Lib.hid (OL_4.out.below E5 (by first | exact Nat.le_refl _ | omega))
    have OM_5 := Lib.hid OM
    clear hb E5 BW4 RV_4 OL_4 OM
    go_wp2_with fail
    refine (sameBools2_v N hNm Z _ _ _ (OL_5.out.rd (by omega)) (OM_5.out.rd (by omega))).mono ?_
    rintro e w6 ⟨rfl, hb⟩
    have E6 : Below w5.heap.size w5 w6 := below_via hb (by repeat (first | exact Below.refl _ _ | refine Below.alloc ?_ (by simp <;> omega) _ | refine Below.setCell ?_ (by simp <;> omega) _ | refine Below.drew ?_)) (by first | (simp; done) | omega | (simp; omega))
    have sz6 : w5.heap.size ≤ w6.heap.size := E6.size
    have BW6 := Lib.hid (BW5.out.trans (E6.mono BW5.out.size))
    have RV_6 := Lib.hid (RV_5.out.later E6)
    have OL_6 := Lib.hid (OL_5.out.below E6 (by first | exact Nat.le_refl _ | omega))
    clear hb E6 BW5 RV_5 OL_5 OM_5
    go_wp2_with fail
    refine (DrawSide_any hn' BW6.out HC.out).mono ?_
    rintro e w7 ⟨va, vb, qa, mb, za, bb, hqa, hmb, rfl, RA, RB, hb⟩
    have E7 : Below w6.heap.size w6 w7 := below_via hb (by repeat (first | exact Below.refl _ _ | refine Below.alloc ?_ (by simp <;> omega) _ | refine Below.setCell ?_ (by simp <;> omega) _ | refine Below.drew ?_)) (by first | (simp; done) | omega | (simp; omega))
    have sz7 : w6.heap.size ≤ w7.heap.size := E7.size
    have BW7 := Lib.hid (BW6.out.trans (E7.mono BW6.out.size))
    have RV_7 := Lib.hid (RV_6.out.later E7)
    have OL_7 := Lib.hid (OL_6.out.below E7 (by first | exact Nat.le_refl _ | omega))
    have RA_7 := Lib.hid RA
    have RB_7 := Lib.hid RB
    clear hb E7 BW6 RV_6 OL_6 RA RB
    have hqam : qa ≤ maxLen := by unfold maxLen; omega
    have hmbm : mb ≤ maxLen := by unfold maxLen; omega
    have hDI := Lib.hid (fun W (ha : Rd W va qa qa za) (hb : RdB W vb mb bb) => iSide_v qa hqam za va mb hmbm bb vb W ha hb)
    have hDS := Lib.hid (fun W (ha : Rd W va qa qa za) (hb : RdB W vb mb bb) => sSide_v qa hqam za va mb hmbm bb vb W ha hb)
    obtain ⟨D, hD⟩ : ∃ D, D = sdI qa za mb bb := ⟨_, rfl⟩
    rw [← hD] at hDI hDS
    clear hD
    have hDD : (D != D) = false := by simp
    go_wp2_with fail
    refine (hDI.out _ RA_7.out RB_7.out).mono ?_
    rintro e w8 ⟨rfl, hb⟩
    have E8 : Below w7.heap.size w7 w8 := below_via hb (by repeat (first | exact Below.refl _ _ | refine Below.alloc ?_ (by simp <;> omega) _ | refine Below.setCell ?_ (by simp <;> omega) _ | refine Below.drew ?_)) (by first | (simp; done) | omega | (simp; omega))
    have sz8 : w7.heap.size ≤ w8.heap.size := E8.size
    have BW8 := Lib.hid (BW7.out.trans (E8.mono BW7.out.size))
    have RV_8 := Lib.hid (RV_7.out.later E8)
    have OL_8 := Lib.hid (OL_7.out.below E8 (by first | exact Nat.le_refl _ | omega))
    have RA_8 := Lib.hid (RA_7.out.later E8)
    have RB_8 := Lib.hid (RB_7.out.later E8)
    clear hb E8 BW7 RV_7 OL_7 RA_7 RB_7
    go_wp2_with fail
    refine (hDS.out _ RA_8.out RB_8.out).mono ?_
    rintro e wz ⟨rfl, rfl⟩
    go_wp2_with fail
    go_ret
    exact ⟨rfl, BW8.out⟩
  have hvin := ldV_in hws
  have habs := (sides_law hws (fun _ => true)).1
  have hf9 := sgn_in (n := q) (sdl q (layK q z)) hws.low.2
  have hq12 := hws.1
  rw [show ldI q z = ldV q z from if_pos hws] at hLI hLS
  rw [show layN q z = q from if_pos hws] at hYI hYS
  have hSE := Lib.hid (fun W u (hW : Rd W (.slice pv q cv) q q z) (hu : RdB W u q (sdl q (layK q z))) => hSI.out W u q hqm (sdl q (layK q z)) hW hu)
  rw [show sdI q z q (sdl q (layK q z)) = sgn z (sdl q (layK q z)) q from if_pos ⟨rfl, hws.low⟩] at hSE
  obtain ⟨Z, hZ⟩ : ∃ Z, Z = sdl q (layK q z) := ⟨_, rfl⟩
  rw [← hZ] at hYI hYS hSE habs hf9
  obtain ⟨V, hV⟩ : ∃ V, V = ldV q z := ⟨_, rfl⟩
  rw [← hV] at hLI hLS hvin habs
  obtain ⟨f, hf⟩ : ∃ f, f = sgn z Z q := ⟨_, rfl⟩
  rw [← hf] at hSE habs hf9
  clear hZ hV hf hws hSI
  unfold absI at habs
  have hNm := hqm
  have hf8 : -24000 ≤ f ∧ f ≤ 24000 := by omega
  clear hf9
  have hwf : IntKind.i64.wrap (-f) = -f := IntWalk.i64_in _ (by omega)
  rcases Int.lt_trichotomy f 0 with ef | ef | ef
  · skip
    rw [if_pos ef] at habs
    subst habs
    have x1 : decide (f < -f) = true := decide_eq_true (by omega)
    have x2 : decide (-f < f) = false := decide_eq_false (by omega)
    have x3 : (f == -f) = false := by simp; omega
    have x4 : (if f < -f then -f else f) = -f := if_pos (by omega)
    have x5 : decide (0 < f) = false := decide_eq_false (by omega)
    have x6 : decide (-f < 0) = false := decide_eq_false (by omega)
    have x7 : (-f != -f) = false := by simp
    have x8 : (-f == -f) = true := by simp
    clear ef
    go_wp2_with fail
    refine (hLI.out _ RV_1.out).mono ?_
    rintro e w2 ⟨rfl, hb⟩
    have E2 : Below w1.heap.size w1 w2 := below_via hb (by repeat (first | exact Below.refl _ _ | refine Below.alloc ?_ (by simp <;> omega) _ | refine Below.setCell ?_ (by simp <;> omega) _ | refine Below.drew ?_)) (by first | (simp; done) | omega | (simp; omega))
    have sz2 : w1.heap.size ≤ w2.heap.size := E2.size
    have BW2 := Lib.hid (BW1.out.trans (E2.mono BW1.out.size))
    have RV_2 := Lib.hid (RV_1.out.later E2)
    clear hb E2 BW1 RV_1
    go_wp2_with fail
    refine (hYI.out _ RV_2.out).mono ?_
    rintro e w3 ⟨vl, rfl, OL, hb⟩
    have E3 : Below w2.heap.size w2 w3 := below_via hb (by repeat (first | exact Below.refl _ _ | refine Below.alloc ?_ (by simp <;> omega) _ | refine Below.setCell ?_ (by simp <;> omega) _ | refine Below.drew ?_)) (by first | (simp; done) | omega | (simp; omega))
    have sz3 : w2.heap.size ≤ w3.heap.size := E3.size
    have BW3 := Lib.hid (BW2.out.trans (E3.mono BW2.out.size))
    have RV_3 := Lib.hid (RV_2.out.later E3)
    have OL_3 := Lib.hid OL
    clear hb E3 BW2 RV_2 OL
    obtain ⟨pl, cl, gl, ol, rfl, -, -, -⟩ := OL_3.out
    go_wp2_with fail
    refine (hLS.out _ RV_3.out).mono ?_
    rintro e w4 ⟨rfl, hb⟩
    have E4 : Below w3.heap.size w3 w4 := below_via hb (by repeat (first | exact Below.refl _ _ | refine Below.alloc ?_ (by simp <;> omega) _ | refine Below.setCell ?_ (by simp <;> omega) _ | refine Below.drew ?_)) (by first | (simp; done) | omega | (simp; omega))
    have sz4 : w3.heap.size ≤ w4.heap.size := E4.size
    have BW4 := Lib.hid (BW3.out.trans (E4.mono BW3.out.size))
    have RV_4 := Lib.hid (RV_3.out.later E4)
    have OL_4 := Lib.hid (OL_3.out.below E4 (by first | exact Nat.le_refl _ | omega))
    clear hb E4 BW3 RV_3 OL_3
    go_wp2_with fail
    refine (hYS.out _ RV_4.out).mono ?_
    rintro e w5 ⟨vm, rfl, OM, hb⟩
    have E5 : Below w4.heap.size w4 w5 := below_via hb (by repeat (first | exact Below.refl _ _ | refine Below.alloc ?_ (by simp <;> omega) _ | refine Below.setCell ?_ (by simp <;> omega) _ | refine Below.drew ?_)) (by first | (simp; done) | omega | (simp; omega))
    have sz5 : w4.heap.size ≤ w5.heap.size := E5.size
    have BW5 := Lib.hid (BW4.out.trans (E5.mono BW4.out.size))
    have RV_5 := Lib.hid (RV_4.out.later E5)
    have OL_5 := Lib.hid (OL_4.out.below E5 (by first | exact Nat.le_refl _ | omega))
    have OM_5 := Lib.hid OM
    clear hb E5 BW4 RV_4 OL_4 OM
    go_wp2_with fail
    refine (sameBools2_v q hNm Z _ _ _ (OL_5.out.rd (by omega)) (OM_5.out.rd (by omega))).mono ?_
    rintro e w6 ⟨rfl, hb⟩
    have E6 : Below w5.heap.size w5 w6 := below_via hb (by repeat (first | exact Below.refl _ _ | refine Below.alloc ?_ (by simp <;> omega) _ | refine Below.setCell ?_ (by simp <;> omega) _ | refine Below.drew ?_)) (by first | (simp; done) | omega | (simp; omega))
    have sz6 : w5.heap.size ≤ w6.heap.size := E6.size
    have BW6 := Lib.hid (BW5.out.trans (E6.mono BW5.out.size))
    have RV_6 := Lib.hid (RV_5.out.later E6)
    have OL_6 := Lib.hid (OL_5.out.below E6 (by first | exact Nat.le_refl _ | omega))
    clear hb E6 BW5 RV_5 OL_5 OM_5
    go_wp2_with fail
    refine (DrawSide_any hn' BW6.out HC.out).mono ?_
    rintro e w7 ⟨va, vb, qa, mb, za, bb, hqa, hmb, rfl, RA, RB, hb⟩
    have E7 : Below w6.heap.size w6 w7 := below_via hb (by repeat (first | exact Below.refl _ _ | refine Below.alloc ?_ (by simp <;> omega) _ | refine Below.setCell ?_ (by simp <;> omega) _ | refine Below.drew ?_)) (by first | (simp; done) | omega | (simp; omega))
    have sz7 : w6.heap.size ≤ w7.heap.size := E7.size
    have BW7 := Lib.hid (BW6.out.trans (E7.mono BW6.out.size))
    have RV_7 := Lib.hid (RV_6.out.later E7)
    have OL_7 := Lib.hid (OL_6.out.below E7 (by first | exact Nat.le_refl _ | omega))
    have RA_7 := Lib.hid RA
    have RB_7 := Lib.hid RB
    clear hb E7 BW6 RV_6 OL_6 RA RB
    have hqam : qa ≤ maxLen := by unfold maxLen; omega
    have hmbm : mb ≤ maxLen := by unfold maxLen; omega
    have hDI := Lib.hid (fun W (ha : Rd W va qa qa za) (hb : RdB W vb mb bb) => iSide_v qa hqam za va mb hmbm bb vb W ha hb)
    have hDS := Lib.hid (fun W (ha : Rd W va qa qa za) (hb : RdB W vb mb bb) => sSide_v qa hqam za va mb hmbm bb vb W ha hb)
    obtain ⟨D, hD⟩ : ∃ D, D = sdI qa za mb bb := ⟨_, rfl⟩
    rw [← hD] at hDI hDS
    clear hD
    have hDD : (D != D) = false := by simp
    go_wp2_with fail
    refine (hDI.out _ RA_7.out RB_7.out).mono ?_
    rintro e w8 ⟨rfl, hb⟩
    have E8 : Below w7.heap.size w7 w8 := below_via hb (by repeat (first | exact Below.refl _ _ | refine Below.alloc ?_ (by simp <;> omega) _ | refine Below.setCell ?_ (by simp <;> omega) _ | refine Below.drew ?_)) (by first | (simp; done) | omega | (simp; omega))
    have sz8 : w7.heap.size ≤ w8.heap.size := E8.size
    have BW8 := Lib.hid (BW7.out.trans (E8.mono BW7.out.size))
    have RV_8 := Lib.hid (RV_7.out.later E8)
    have OL_8 := Lib.hid (OL_7.out.below E8 (by first | exact Nat.le_refl _ | omega))
    have RA_8 := Lib.hid (RA_7.out.later E8)
    have RB_8 := Lib.hid (RB_7.out.later E8)
    clear hb E8 BW7 RV_7 OL_7 RA_7 RB_7
    go_wp2_with fail
    refine (hDS.out _ RA_8.out RB_8.out).mono ?_
    rintro e wz ⟨rfl, rfl⟩
    go_wp2_with fail
    refine (hSE.out _ _ RV_8.out (OL_8.out.rd (by omega))).mono ?_
    rintro e w9 ⟨rfl, hb⟩
    have E9 : Below w8.heap.size w8 w9 := below_via hb (by repeat (first | exact Below.refl _ _ | refine Below.alloc ?_ (by simp <;> omega) _ | refine Below.setCell ?_ (by simp <;> omega) _ | refine Below.drew ?_)) (by first | (simp; done) | omega | (simp; omega))
    have sz9 : w8.heap.size ≤ w9.heap.size := E9.size
    have BW9 := Lib.hid (BW8.out.trans (E9.mono BW8.out.size))
    clear hb E9 BW8 RV_8 OL_8 RA_8 RB_8
    go_wp2_with fail
    go_ret
    exact ⟨rfl, BW9.out⟩
  · skip
    subst ef
    rw [if_neg (by omega)] at habs
    subst habs
    go_wp2_with fail
    refine (hLI.out _ RV_1.out).mono ?_
    rintro e w2 ⟨rfl, hb⟩
    have E2 : Below w1.heap.size w1 w2 := below_via hb (by repeat (first | exact Below.refl _ _ | refine Below.alloc ?_ (by simp <;> omega) _ | refine Below.setCell ?_ (by simp <;> omega) _ | refine Below.drew ?_)) (by first | (simp; done) | omega | (simp; omega))
    have sz2 : w1.heap.size ≤ w2.heap.size := E2.size
    have BW2 := Lib.hid (BW1.out.trans (E2.mono BW1.out.size))
    have RV_2 := Lib.hid (RV_1.out.later E2)
    clear hb E2 BW1 RV_1
    go_wp2_with fail
    refine (hYI.out _ RV_2.out).mono ?_
    rintro e w3 ⟨vl, rfl, OL, hb⟩
    have E3 : Below w2.heap.size w2 w3 := below_via hb (by repeat (first | exact Below.refl _ _ | refine Below.alloc ?_ (by simp <;> omega) _ | refine Below.setCell ?_ (by simp <;> omega) _ | refine Below.drew ?_)) (by first | (simp; done) | omega | (simp; omega))
    have sz3 : w2.heap.size ≤ w3.heap.size := E3.size
    have BW3 := Lib.hid (BW2.out.trans (E3.mono BW2.out.size))
    have RV_3 := Lib.hid (RV_2.out.later E3)
    have OL_3 := Lib.hid OL
    clear hb E3 BW2 RV_2 OL
    obtain ⟨pl, cl, gl, ol, rfl, -, -, -⟩ := OL_3.out
    go_wp2_with fail
    refine (hLS.out _ RV_3.out).mono ?_
    rintro e w4 ⟨rfl, hb⟩
    have E4 : Below w3.heap.size w3 w4 := below_via hb (by repeat (first | exact Below.refl _ _ | refine Below.alloc ?_ (by simp <;> omega) _ | refine Below.setCell ?_ (by simp <;> omega) _ | refine Below.drew ?_)) (by first | (simp; done) | omega | (simp; omega))
    have sz4 : w3.heap.size ≤ w4.heap.size := E4.size
    have BW4 := Lib.hid (BW3.out.trans (E4.mono BW3.out.size))
    have RV_4 := Lib.hid (RV_3.out.later E4)
    have OL_4 := Lib.hid (OL_3.out.below E4 (by first | exact Nat.le_refl _ | omega))
    clear hb E4 BW3 RV_3 OL_3
    go_wp2_with fail
    refine (hYS.out _ RV_4.out).mono ?_
    rintro e w5 ⟨vm, rfl, OM, hb⟩
    have E5 : Below w4.heap.size w4 w5 := below_via hb (by repeat (first | exact Below.refl _ _ | refine Below.alloc ?_ (by simp <;> omega) _ | refine Below.setCell ?_ (by simp <;> omega) _ | refine Below.drew ?_)) (by first | (simp; done) | omega | (simp; omega))
    have sz5 : w4.heap.size ≤ w5.heap.size := E5.size
    have BW5 := Lib.hid (BW4.out.trans (E5.mono BW4.out.size))
    have RV_5 := Lib.hid (RV_4.out.later E5)
    have OL_5 := Lib.hid (OL_4.out.below E5 (by first | exact Nat.le_refl _ | omega))
    have OM_5 := Lib.hid OM
    clear hb E5 BW4 RV_4 OL_4 OM
    go_wp2_with fail
    refine (sameBools2_v q hNm Z _ _ _ (OL_5.out.rd (by omega)) (OM_5.out.rd (by omega))).mono ?_
    rintro e w6 ⟨rfl, hb⟩
    have E6 : Below w5.heap.size w5 w6 := below_via hb (by repeat (first | exact Below.refl _ _ | refine Below.alloc ?_ (by simp <;> omega) _ | refine Below.setCell ?_ (by simp <;> omega) _ | refine Below.drew ?_)) (by first | (simp; done) | omega | (simp; omega))
    have sz6 : w5.heap.size ≤ w6.heap.size := E6.size
    have BW6 := Lib.hid (BW5.out.trans (E6.mono BW5.out.size))
    have RV_6 := Lib.hid (RV_5.out.later E6)
    have OL_6 := Lib.hid (OL_5.out.below E6 (by first | exact Nat.le_refl _ | omega))
    clear hb E6 BW5 RV_5 OL_5 OM_5
    go_wp2_with fail
    refine (DrawSide_any hn' BW6.out HC.out).mono ?_
    rintro e w7 ⟨va, vb, qa, mb, za, bb, hqa, hmb, rfl, RA, RB, hb⟩
    have E7 : Below w6.heap.size w6 w7 := below_via hb (by repeat (first | exact Below.refl _ _ | refine Below.alloc ?_ (by simp <;> omega) _ | refine Below.setCell ?_ (by simp <;> omega) _ | refine Below.drew ?_)) (by first | (simp; done) | omega | (simp; omega))
    have sz7 : w6.heap.size ≤ w7.heap.size := E7.size
    have BW7 := Lib.hid (BW6.out.trans (E7.mono BW6.out.size))
    have RV_7 := Lib.hid (RV_6.out.later E7)
    have OL_7 := Lib.hid (OL_6.out.below E7 (by first | exact Nat.le_refl _ | omega))
    have RA_7 := Lib.hid RA
    have RB_7 := Lib.hid RB
    clear hb E7 BW6 RV_6 OL_6 RA RB
    have hqam : qa ≤ maxLen := by unfold maxLen; omega
    have hmbm : mb ≤ maxLen := by unfold maxLen; omega
    have hDI := Lib.hid (fun W (ha : Rd W va qa qa za) (hb : RdB W vb mb bb) => iSide_v qa hqam za va mb hmbm bb vb W ha hb)
    have hDS := Lib.hid (fun W (ha : Rd W va qa qa za) (hb : RdB W vb mb bb) => sSide_v qa hqam za va mb hmbm bb vb W ha hb)
    obtain ⟨D, hD⟩ : ∃ D, D = sdI qa za mb bb := ⟨_, rfl⟩
    rw [← hD] at hDI hDS
    clear hD
    have hDD : (D != D) = false := by simp
    go_wp2_with fail
    refine (hDI.out _ RA_7.out RB_7.out).mono ?_
    rintro e w8 ⟨rfl, hb⟩
    have E8 : Below w7.heap.size w7 w8 := below_via hb (by repeat (first | exact Below.refl _ _ | refine Below.alloc ?_ (by simp <;> omega) _ | refine Below.setCell ?_ (by simp <;> omega) _ | refine Below.drew ?_)) (by first | (simp; done) | omega | (simp; omega))
    have sz8 : w7.heap.size ≤ w8.heap.size := E8.size
    have BW8 := Lib.hid (BW7.out.trans (E8.mono BW7.out.size))
    have RV_8 := Lib.hid (RV_7.out.later E8)
    have OL_8 := Lib.hid (OL_7.out.below E8 (by first | exact Nat.le_refl _ | omega))
    have RA_8 := Lib.hid (RA_7.out.later E8)
    have RB_8 := Lib.hid (RB_7.out.later E8)
    clear hb E8 BW7 RV_7 OL_7 RA_7 RB_7
    go_wp2_with fail
    refine (hDS.out _ RA_8.out RB_8.out).mono ?_
    rintro e wz ⟨rfl, rfl⟩
    go_wp2_with fail
    refine (hSE.out _ _ RV_8.out (OL_8.out.rd (by omega))).mono ?_
    rintro e w9 ⟨rfl, hb⟩
    have E9 : Below w8.heap.size w8 w9 := below_via hb (by repeat (first | exact Below.refl _ _ | refine Below.alloc ?_ (by simp <;> omega) _ | refine Below.setCell ?_ (by simp <;> omega) _ | refine Below.drew ?_)) (by first | (simp; done) | omega | (simp; omega))
    have sz9 : w8.heap.size ≤ w9.heap.size := E9.size
    have BW9 := Lib.hid (BW8.out.trans (E9.mono BW8.out.size))
    clear hb E9 BW8 RV_8 OL_8 RA_8 RB_8
    go_wp2_with fail
    go_ret
    exact ⟨rfl, BW9.out⟩
  · skip
    rw [if_neg (by omega)] at habs
    subst habs
    have x1 : decide (f < -f) = false := decide_eq_false (by omega)
    have x2 : decide (-f < f) = true := decide_eq_true (by omega)
    have x3 : (f == -f) = false := by simp; omega
    have x4 : (if f < -f then -f else f) = f := if_neg (by omega)
    have x6 : decide (f < 0) = false := decide_eq_false (by omega)
    have x7 : (f != f) = false := by simp
    have x8 : (f == f) = true := by simp
    clear ef
    go_wp2_with fail
    refine (hLI.out _ RV_1.out).mono ?_
    rintro e w2 ⟨rfl, hb⟩
    have E2 : Below w1.heap.size w1 w2 := below_via hb (by repeat (first | exact Below.refl _ _ | refine Below.alloc ?_ (by simp <;> omega) _ | refine Below.setCell ?_ (by simp <;> omega) _ | refine Below.drew ?_)) (by first | (simp; done) | omega | (simp; omega))
    have sz2 : w1.heap.size ≤ w2.heap.size := E2.size
    have BW2 := Lib.hid (BW1.out.trans (E2.mono BW1.out.size))
    have RV_2 := Lib.hid (RV_1.out.later E2)
    clear hb E2 BW1 RV_1
    go_wp2_with fail
    refine (hYI.out _ RV_2.out).mono ?_
    rintro e w3 ⟨vl, rfl, OL, hb⟩
    have E3 : Below w2.heap.size w2 w3 := below_via hb (by repeat (first | exact Below.refl _ _ | refine Below.alloc ?_ (by simp <;> omega) _ | refine Below.setCell ?_ (by simp <;> omega) _ | refine Below.drew ?_)) (by first | (simp; done) | omega | (simp; omega))
    have sz3 : w2.heap.size ≤ w3.heap.size := E3.size
    have BW3 := Lib.hid (BW2.out.trans (E3.mono BW2.out.size))
    have RV_3 := Lib.hid (RV_2.out.later E3)
    have OL_3 := Lib.hid OL
    clear hb E3 BW2 RV_2 OL
    obtain ⟨pl, cl, gl, ol, rfl, -, -, -⟩ := OL_3.out
    go_wp2_with fail
    refine (hLS.out _ RV_3.out).mono ?_
    rintro e w4 ⟨rfl, hb⟩
    have E4 : Below w3.heap.size w3 w4 := below_via hb (by repeat (first | exact Below.refl _ _ | refine Below.alloc ?_ (by simp <;> omega) _ | refine Below.setCell ?_ (by simp <;> omega) _ | refine Below.drew ?_)) (by first | (simp; done) | omega | (simp; omega))
    have sz4 : w3.heap.size ≤ w4.heap.size := E4.size
    have BW4 := Lib.hid (BW3.out.trans (E4.mono BW3.out.size))
    have RV_4 := Lib.hid (RV_3.out.later E4)
    have OL_4 := Lib.hid (OL_3.out.below E4 (by first | exact Nat.le_refl _ | omega))
    clear hb E4 BW3 RV_3 OL_3
    go_wp2_with fail
    refine (hYS.out _ RV_4.out).mono ?_
    rintro e w5 ⟨vm, rfl, OM, hb⟩
    have E5 : Below w4.heap.size w4 w5 := below_via hb (by repeat (first | exact Below.refl _ _ | refine Below.alloc ?_ (by simp <;> omega) _ | refine Below.setCell ?_ (by simp <;> omega) _ | refine Below.drew ?_)) (by first | (simp; done) | omega | (simp; omega))
    have sz5 : w4.heap.size ≤ w5.heap.size := E5.size
    have BW5 := Lib.hid (BW4.out.trans (E5.mono BW4.out.size))
    have RV_5 := Lib.hid (RV_4.out.later E5)
    have OL_5 := Lib.hid (OL_4.out.below E5 (by first | exact Nat.le_refl _ | omega))
    have OM_5 := Lib.hid OM
    clear hb E5 BW4 RV_4 OL_4 OM
    go_wp2_with fail
    refine (sameBools2_v q hNm Z _ _ _ (OL_5.out.rd (by omega)) (OM_5.out.rd (by omega))).mono ?_
    rintro e w6 ⟨rfl, hb⟩
    have E6 : Below w5.heap.size w5 w6 := below_via hb (by repeat (first | exact Below.refl _ _ | refine Below.alloc ?_ (by simp <;> omega) _ | refine Below.setCell ?_ (by simp <;> omega) _ | refine Below.drew ?_)) (by first | (simp; done) | omega | (simp; omega))
    have sz6 : w5.heap.size ≤ w6.heap.size := E6.size
    have BW6 := Lib.hid (BW5.out.trans (E6.mono BW5.out.size))
    have RV_6 := Lib.hid (RV_5.out.later E6)
    have OL_6 := Lib.hid (OL_5.out.below E6 (by first | exact Nat.le_refl _ | omega))
    clear hb E6 BW5 RV_5 OL_5 OM_5
    go_wp2_with fail
    refine (DrawSide_any hn' BW6.out HC.out).mono ?_
    rintro e w7 ⟨va, vb, qa, mb, za, bb, hqa, hmb, rfl, RA, RB, hb⟩
    have E7 : Below w6.heap.size w6 w7 := below_via hb (by repeat (first | exact Below.refl _ _ | refine Below.alloc ?_ (by simp <;> omega) _ | refine Below.setCell ?_ (by simp <;> omega) _ | refine Below.drew ?_)) (by first | (simp; done) | omega | (simp; omega))
    have sz7 : w6.heap.size ≤ w7.heap.size := E7.size
    have BW7 := Lib.hid (BW6.out.trans (E7.mono BW6.out.size))
    have RV_7 := Lib.hid (RV_6.out.later E7)
    have OL_7 := Lib.hid (OL_6.out.below E7 (by first | exact Nat.le_refl _ | omega))
    have RA_7 := Lib.hid RA
    have RB_7 := Lib.hid RB
    clear hb E7 BW6 RV_6 OL_6 RA RB
    have hqam : qa ≤ maxLen := by unfold maxLen; omega
    have hmbm : mb ≤ maxLen := by unfold maxLen; omega
    have hDI := Lib.hid (fun W (ha : Rd W va qa qa za) (hb : RdB W vb mb bb) => iSide_v qa hqam za va mb hmbm bb vb W ha hb)
    have hDS := Lib.hid (fun W (ha : Rd W va qa qa za) (hb : RdB W vb mb bb) => sSide_v qa hqam za va mb hmbm bb vb W ha hb)
    obtain ⟨D, hD⟩ : ∃ D, D = sdI qa za mb bb := ⟨_, rfl⟩
    rw [← hD] at hDI hDS
    clear hD
    have hDD : (D != D) = false := by simp
    go_wp2_with fail
    refine (hDI.out _ RA_7.out RB_7.out).mono ?_
    rintro e w8 ⟨rfl, hb⟩
    have E8 : Below w7.heap.size w7 w8 := below_via hb (by repeat (first | exact Below.refl _ _ | refine Below.alloc ?_ (by simp <;> omega) _ | refine Below.setCell ?_ (by simp <;> omega) _ | refine Below.drew ?_)) (by first | (simp; done) | omega | (simp; omega))
    have sz8 : w7.heap.size ≤ w8.heap.size := E8.size
    have BW8 := Lib.hid (BW7.out.trans (E8.mono BW7.out.size))
    have RV_8 := Lib.hid (RV_7.out.later E8)
    have OL_8 := Lib.hid (OL_7.out.below E8 (by first | exact Nat.le_refl _ | omega))
    have RA_8 := Lib.hid (RA_7.out.later E8)
    have RB_8 := Lib.hid (RB_7.out.later E8)
    clear hb E8 BW7 RV_7 OL_7 RA_7 RB_7
    go_wp2_with fail
    refine (hDS.out _ RA_8.out RB_8.out).mono ?_
    rintro e wz ⟨rfl, rfl⟩
    go_wp2_with fail
    refine (hSE.out _ _ RV_8.out (OL_8.out.rd (by omega))).mono ?_
    rintro e w9 ⟨rfl, hb⟩
    have E9 : Below w8.heap.size w8 w9 := below_via hb (by repeat (first | exact Below.refl _ _ | refine Below.alloc ?_ (by simp <;> omega) _ | refine Below.setCell ?_ (by simp <;> omega) _ | refine Below.drew ?_)) (by first | (simp; done) | omega | (simp; omega))
    have sz9 : w8.heap.size ≤ w9.heap.size := E9.size
    have BW9 := Lib.hid (BW8.out.trans (E9.mono BW8.out.size))
    clear hb E9 BW8 RV_8 OL_8 RA_8 RB_8
    go_wp2_with fail
    go_ret
    exact ⟨rfl, BW9.out⟩

/-! The row's step. -/
theorem own : ownKnob Try.prog.godebug = none := by kernel_rfl
theorem laidOut : laidOutB Try.prog = true := by kernel_rfl
set_option maxRecDepth 100000 in
theorem lifted (os : Os) (started : os.Started) (H : Type) (enc : TypeId × Value → H) :
    ReturnsInHanded {} Try.checked os 5 .any (Rows.fnSidesSpec.pre6 enc Try.prog Try.f5 Rows.fnSidesRow.domain false) (Rows.fnSidesSpec.post enc Try.prog Try.f5 false true false false) := by
  refine returnsInHanded_of_change (C := Try.checked) own started (by kernel_rfl) Try.func5
    (ChangeSpec.witness6 (enc := enc) (C := Try.checked) false ⟨#[], #[.slice none 0 0], []⟩ 8 (by kernel_rfl) (by kernel_rfl) (by kernel_rfl) (by kernel_rfl)) ?_
  intro W base args ds gs before hval0 hW hcnd _
  have hval : ∀ (j : Nat) t v, Try.f5.params[j]? = some t → args[j]? = some v → Value.okWide Try.prog W .any base t v := hval0
  have hW' := hW
  obtain ⟨p, q, hA0, hV, rfl, hfz, hnd⟩ := hW
  have hA : DataW.TrodAll enc Try.prog W 0 (fun _ => true) true Try.f5.params.toList args.toList ds p := hA0
  rw [Try.params5] at hA hval
  obtain ⟨v0, vs0, d0, ds0, p0, q0, hargs, rfl, rfl, h0, r0⟩ := trodAll_cons hA
  obtain ⟨rfl, rfl, rfl⟩ := trodAll_nil r0
  obtain rfl : args = #[v0] := by cases args; simp_all
  obtain ⟨rfl, rfl⟩ := trodVars_none hV
  have k0 := h0
  have lt0 : ∀ x ∈ p0, x.block < W.heap.size := by obtain ⟨m, hm⟩ := k0; exact DataW.trod_lt m _ _ _ hm
  obtain ⟨sp0, ln0, cp0, rfl⟩ := okWide_slice Try.underlying22 (hval 0 22 v0 rfl rfl)
  obtain ⟨gc0, oc0, w0, cd0⟩ := code_open h0
  clear hA0 hval0
  refine (walk sp0 ln0 cp0 gc0 oc0 W w0 cd0).mono fun e W' ⟨he, bel⟩ => ?_
  subst he
  exact ⟨_, rfl, _, _, _, [], _, [], hW', trodAll_mk1 (shut_bool Try.underlying4 _), (trodAll_cons_mk (Below.trod laidOut (by kernel_rfl) (of_decide_eq_true (by kernel_rfl)) k0 bel lt0) trodAll_mk0), rfl, bel.frame _, fun h => by cases h⟩

theorem over : Rows.fnSidesRow.holds Try.pinned (OpenSpec.ofChange Rows.fnSidesSpec) :=
  OpenClaim.holds_of_wide 5 Try.f5 rfl rfl rfl rfl rfl rfl rfl ⟨rfl, rfl, rfl, rfl, rfl⟩ rfl rfl rfl rfl rfl (by kernel_rfl) Try.func5 (by kernel_rfl)
    (of_decide_eq_true (by kernel_rfl)) (by unfold Func.isWrapper; first | (rw [if_pos (by decide +kernel)]; kernel_rfl) | (rw [if_neg (by decide +kernel)]; exact ⟨rfl, rfl⟩))
    (fun os started H enc _ => lifted os started H enc)

/-- The statement. -/
theorem proved : Rows.FnSidesSaid := over
#print axioms proved
end Go.Proofs.Ytnkhjlpeeljelab.fnSides
