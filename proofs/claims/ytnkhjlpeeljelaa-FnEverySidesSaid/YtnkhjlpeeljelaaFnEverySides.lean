/- For all arguments FnEverySides returns true, and the arguments read as before. No condition. -/
import Derived.Test.YtnkhjlpeeljelaaRows
import Derived.Test.YtnkhjlpeeljelaaBlk
import Derived.Test.YtnkhjlpeeljelaaSidesPlain
import Derived.Test.YtnkhjlpeeljelaaLayI
import Derived.Test.YtnkhjlpeeljelaaLeastDiffS
import Derived.Test.YtnkhjlpeeljelaaSideI
import Derived.Test.YtnkhjlpeeljelaaSideS
import Derived.Test.YtnkhjlpeeljelaaOpenV
import Derived.OpenShut
import Derived.ChangeOld
import Derived.Lib.SmallJoins
import Derived.BigQuiet
import Derived.Deep.QuietTactic
namespace Go.Proofs.Ytnkhjlpeeljelaa.fnEverySides
open Go.ChangeShapes Go.WideShapes Go.ChangeAt Go.RowKit
set_option linter.unusedVariables false

set_option maxRecDepth 100000 in
set_option maxHeartbeats 16000000 in
theorem walk (v0 : Value) (n0 : Nat) (z0 : Nat → Int) (v1 : Value) (n1 : Nat) (z1 : Nat → Bool) (w : World) (m0 : n0 ≤ maxLen) (r0 : Rd w v0 n0 n0 z0) (m1 : n1 ≤ maxLen) (r1 : RdB w v1 n1 z1) :
    Calls Try.prog 13 #[v0, v1] w fun e w' => e = .returned (.bool true) ∧ Below w.heap.size w w' := by
  obtain ⟨p0, c0, g0, o0, rfl, nc0, f0⟩ := r0
  obtain ⟨p1, c1, g1, o1, rfl, nc1, f1⟩ := r1
  have R0 := Lib.hid (show Rd w (.slice p0 n0 c0) n0 n0 z0 from ⟨p0, c0, g0, o0, rfl, nc0, f0⟩)
  have R1 := Lib.hid (show RdB w (.slice p1 n1 c1) n1 z1 from ⟨p1, c1, g1, o1, rfl, nc1, f1⟩)
  have H1 := Lib.hid f1
  clear f0 f1 nc0 nc1
  by_cases hnm : n0 = n1
  rotate_left
  · have hd2 : ((n0 : Int) != (n1 : Int)) = true := by simp; omega
    clear hnm
    go_enter Try.func13, Try.ntmps13
    go_wp2_with fail
    go_ret
    exact ⟨rfl, Below.refl _ _⟩
  subst hnm
  have hls := Lib.hid (fun W u (hu : Rd W u n0 n0 z0) => sLeastDiff_v n0 m0 z0 u W hu)
  by_cases hws : wsOk 0 n0 z0
  rotate_left
  · rw [show ldI n0 z0 = -1 from if_neg hws] at hls
    clear hws
    go_enter Try.func13, Try.ntmps13
    go_wp2_with (go_at_call 29; refine (hls.out _ _ R0.out).mono ?_; rintro e w2 ⟨rfl, hb⟩)
    go_ret
    exact ⟨rfl, hb⟩
  have hli := Lib.hid (fun W u (hu : Rd W u n0 n0 z0) => iLeastDiff_v n0 m0 z0 u W hu)
  have hlay := Lib.hid (fun W u (hu : Rd W u n0 n0 z0) => iLay_v n0 m0 z0 u W hu)
  have hSd := Lib.hid (fun W u v (hu : Rd W u n0 n0 z0) (hv : RdB W v n0 z1) => sSide_v n0 m0 z0 u n0 m0 z1 v W hu hv)
  have hId := Lib.hid (fun W u v (hu : Rd W u n0 n0 z0) (hv : RdB W v n0 z1) => iSide_v n0 m0 z0 u n0 m0 z1 v W hu hv)
  have hIe := Lib.hid (fun W u v (hu : Rd W u n0 n0 z0) (hv : RdB W v n0 (sdl n0 (layK n0 z0))) => iSide_v n0 m0 z0 u n0 m0 (sdl n0 (layK n0 z0)) v W hu hv)
  have hlaw := sides_law hws z1
  have hvin := ldV_in hws
  have hd9 := sgn_in (n := n0) z1 hws.low.2
  have he9 := sgn_in (n := n0) (sdl n0 (layK n0 z0)) hws.low.2
  have hn12 := hws.1
  have hN : layN n0 z0 = n0 := if_pos hws
  rw [show ldI n0 z0 = ldV n0 z0 from if_pos hws] at hls hli
  rw [hN] at hlay
  rw [show sdI n0 z0 n0 z1 = sgn z0 z1 n0 from if_pos ⟨rfl, hws.low⟩] at hSd hId
  rw [show sdI n0 z0 n0 (sdl n0 (layK n0 z0)) = sgn z0 (sdl n0 (layK n0 z0)) n0 from if_pos ⟨rfl, hws.low⟩] at hIe
  clear hws hN
  obtain ⟨V, hV⟩ : ∃ V, V = ldV n0 z0 := ⟨_, rfl⟩
  obtain ⟨d, hd⟩ : ∃ d, d = sgn z0 z1 n0 := ⟨_, rfl⟩
  obtain ⟨Z, hZ⟩ : ∃ Z, Z = sdl n0 (layK n0 z0) := ⟨_, rfl⟩
  rw [← hZ] at hlay hIe hlaw he9
  obtain ⟨f, hf⟩ : ∃ f, f = sgn z0 Z n0 := ⟨_, rfl⟩
  rw [← hV] at hls hli hlaw hvin
  rw [← hd] at hSd hId hlaw hd9
  rw [← hf] at hIe hlaw he9
  clear hV hd hf hZ
  have hf9 : -24000 ≤ f ∧ f ≤ 24000 := by omega
  have hd8 : -24000 ≤ d ∧ d ≤ 24000 := by omega
  clear hd9 he9
  obtain ⟨ha, hb9, hC⟩ := hlaw
  unfold absI at ha hb9 hC
  have HC := Lib.hid hC
  clear hC
  have hV0 : decide (V < 0) = false := decide_eq_false (by omega)
  have hwf : IntKind.i64.wrap (-f) = -f := IntWalk.i64_in _ (by omega)
  have hwd : IntKind.i64.wrap (-d) = -d := IntWalk.i64_in _ (by omega)
  have hdd : (d != d) = false := by simp
  have hnn : ((n0 : Int) != (n0 : Int)) = false := by simp
  rcases Int.lt_trichotomy f 0 with ef | ef | ef
  · skip
    rw [if_pos ef] at ha
    have x1f : decide (f < -f) = true := decide_eq_true (by omega)
    have x2f : decide (-f < f) = false := decide_eq_false (by omega)
    have x3f : (f == -f) = false := by simp; omega
    have x4f : (if f < -f then -f else f) = -f := if_pos (by omega)
    subst ha
    have hVf : ((-f : Int) != -f) = false := by simp
    have hV1 : decide (0 < f) = false := decide_eq_false (by omega)
    rcases Int.lt_trichotomy d 0 with ed | ed | ed
    · skip
      rw [if_pos ed] at hb9 HC
      have x1d : decide (d < -d) = true := decide_eq_true (by omega)
      have x2d : decide (-d < d) = false := decide_eq_false (by omega)
      have x3d : (d == -d) = false := by simp; omega
      have x4d : (if d < -d then -d else d) = -d := if_pos (by omega)
      have hle : decide (-d < -f) = false := decide_eq_false (by omega)
      have hle2 : decide (f < d) = false := decide_eq_false (by omega)
      by_cases hq : -f = -d
      · have HD := Lib.hid (HC.out hq)
        have hqb_104 : ((-f : Int) == -d) = true := by first | (simp; omega) | simp
        have hqb_105 : ((-d : Int) == -f) = true := by first | (simp; omega) | simp
        have hqb_106 : ((f : Int) == d) = true := by first | (simp; omega) | simp
        have hqb_107 : ((d : Int) == f) = true := by first | (simp; omega) | simp
        clear HC hq hb9
        clear ed
        clear ef
        go_enter Try.func13, Try.ntmps13
        go_wp2_with (first
          | (go_at_call 29; refine (hls.out _ _ R0.out).mono ?_; rintro e w2 ⟨rfl, hb2⟩; have r2 := R0.out.later hb2)
          | (go_at_call 30; refine (hli.out _ _ r2).mono ?_; rintro e w3 ⟨rfl, hb3⟩; have b3 : Below w.heap.size w w3 := hb2.trans (hb3.mono hb2.size); have r3 := R0.out.later b3)
          | (go_at_call 32; refine (hlay.out _ _ r3).mono ?_; rintro e w4 ⟨u4, rfl, o4, hb4⟩; obtain ⟨p4, c4, g4, q4, rfl, nc4, f4, -⟩ := o4; have b4 : Below w.heap.size w w4 := b3.trans (hb4.mono b3.size); have l4 : RdB w4 (.slice p4 n0 c4) n0 Z := ⟨p4, c4, g4, q4, rfl, nc4, f4.wide (Nat.zero_le _) (Nat.le_refl _)⟩; have r4 := R0.out.later b4; have s4 := R1.out.later b4)
          | (go_at_call 26; (first
              | (with_reducible refine (hId.out _ _ _ r4 s4).mono ?_; rintro e w5 ⟨rfl, hb5⟩; have b5 : Below w.heap.size w w5 := b4.trans (hb5.mono b4.size); have l5 := l4.later hb5; have r5 := R0.out.later b5)
              | (with_reducible refine (hIe.out _ _ _ r5 l5).mono ?_; rintro e w6 ⟨rfl, hb6⟩; have b6 : Below w.heap.size w w6 := b5.trans (hb6.mono b5.size); have l6 := l5.later hb6; have r6 := R0.out.later b6; have s6 := R1.out.later b6)))
          | (go_at_call 23; refine (hSd.out _ _ _ r6 s6).mono ?_; rintro e w7 ⟨rfl, rfl⟩))
        have HB6 := Lib.hid b6
        have HL := Lib.hid l6
        clear b6 l6 b5 l5 hb5 hb6 r5 r6 s6 l4 f4 b4 hb4 r4 s4 b3 r3 hb3 r2 hb2
        go_loopw [9] (fun iv wr => ∃ (k : Nat), k ≤ n0 ∧ iv = .int .i64 (k : Int) ∧ Hid (∀ j, j < k → Z j = z1 j) ∧ Hid (Below w6.heap.size w6 wr)) (fun iv _ => n0 - (intOf iv).toNat)
        case atStart => exact ⟨0, by omega, rfl, fun j hj => absurd hj (by omega), Below.refl _ _⟩
        case round =>
          obtain ⟨k, hk, rfl, HP, HB⟩ := hrel
          by_cases hkn : k < n0
          · have HBW := Lib.hid (HB6.out.trans (HB.out.mono HB6.out.size))
            obtain ⟨p5, c5, g5, q5, e5, nc5, f5⟩ := HL.out
            injection e5 with e51 e52 e53
            subst e51
            obtain ⟨rfl, -, hg5⟩ := f5.1 (by omega)
            obtain ⟨rfl, -, hg1⟩ := H1.out.1 (by omega)
            have a0 := (HB.out.cell (p := ⟨g5, q5 + k, none⟩) hg5).trans (f5.bool k hkn)
            have a1 := (HBW.out.cell (p := ⟨g1, o1 + k, none⟩) hg1).trans (H1.out.bool k hkn)
            have hk0 : (0 : Int) ≤ (k : Int) := by omega
            have hkl : (k : Int) < (n0 : Int) := by omega
            have hwk : IntKind.i64.wrap ((k : Int) + 1) = (k : Int) + 1 := IntWalk.i64_in _ (by omega)
            have HYE := Lib.hid (fun (hh : Z k = z1 k) (j : Nat) (hj : j < k + 1) => show Z j = z1 j from by
              by_cases e : j = k
              · subst e; exact hh
              · exact HP.out j (by omega))
            have HNE := Lib.hid (HD.out k hkn HP.out)
            obtain ⟨x, hx⟩ : ∃ x, x = Z k := ⟨_, rfl⟩
            obtain ⟨y, hy⟩ : ∃ y, y = z1 k := ⟨_, rfl⟩
            rw [← hx] at a0 HYE HNE
            rw [← hy] at a1 HYE HNE
            clear hx hy f5 HP nc5 e52 e53
            by_cases hxy : x = y
            · subst hxy
              have HP2 := Lib.hid (HYE.out rfl)
              clear HYE HNE
              cases x
              all_goals
                go_wp2_with fail
                go_quiet (fail)
                go_wp2_with fail
                go_roundw
                case rel => exact ⟨k + 1, by omega, by congr 1, HP2.out, below_drewN' HB.out _⟩
                case measure => simp only [intOf]; omega
            · have hne : (x != y) = true := by simpa using hxy
              obtain rfl : x = true := HNE.out hxy
              obtain rfl : y = false := by cases y <;> simp_all
              clear HYE HNE hxy hne
              go_wp2_with fail
              go_quiet (fail)
              go_wp2_with fail
              go_ret
              exact ⟨rfl, below_drewN' HBW.out _⟩
          · obtain rfl : k = n0 := by omega
            have HBW := Lib.hid (HB6.out.trans (HB.out.mono HB6.out.size))
            go_wp2_with fail
            go_ret
            exact ⟨rfl, HBW.out⟩
      · skip
        have hqb_176 : ((-f : Int) == -d) = false := by first | (simp; omega) | simp
        have hqb_177 : ((-d : Int) == -f) = false := by first | (simp; omega) | simp
        have hqb_178 : ((f : Int) == d) = false := by first | (simp; omega) | simp
        have hqb_179 : ((d : Int) == f) = false := by first | (simp; omega) | simp
        clear HC hq hb9
        clear ed
        clear ef
        go_enter Try.func13, Try.ntmps13
        go_wp2_with (first
          | (go_at_call 29; refine (hls.out _ _ R0.out).mono ?_; rintro e w2 ⟨rfl, hb2⟩; have r2 := R0.out.later hb2)
          | (go_at_call 30; refine (hli.out _ _ r2).mono ?_; rintro e w3 ⟨rfl, hb3⟩; have b3 : Below w.heap.size w w3 := hb2.trans (hb3.mono hb2.size); have r3 := R0.out.later b3)
          | (go_at_call 32; refine (hlay.out _ _ r3).mono ?_; rintro e w4 ⟨u4, rfl, o4, hb4⟩; obtain ⟨p4, c4, g4, q4, rfl, nc4, f4, -⟩ := o4; have b4 : Below w.heap.size w w4 := b3.trans (hb4.mono b3.size); have l4 : RdB w4 (.slice p4 n0 c4) n0 Z := ⟨p4, c4, g4, q4, rfl, nc4, f4.wide (Nat.zero_le _) (Nat.le_refl _)⟩; have r4 := R0.out.later b4; have s4 := R1.out.later b4)
          | (go_at_call 26; (first
              | (with_reducible refine (hId.out _ _ _ r4 s4).mono ?_; rintro e w5 ⟨rfl, hb5⟩; have b5 : Below w.heap.size w w5 := b4.trans (hb5.mono b4.size); have l5 := l4.later hb5; have r5 := R0.out.later b5)
              | (with_reducible refine (hIe.out _ _ _ r5 l5).mono ?_; rintro e w6 ⟨rfl, hb6⟩; have b6 : Below w.heap.size w w6 := b5.trans (hb6.mono b5.size); have l6 := l5.later hb6; have r6 := R0.out.later b6; have s6 := R1.out.later b6)))
          | (go_at_call 23; refine (hSd.out _ _ _ r6 s6).mono ?_; rintro e w7 ⟨rfl, rfl⟩))
        have HB6 := Lib.hid b6
        clear b6 l6 b5 l5 hb5 hb6 r5 r6 s6 l4 f4 b4 hb4 r4 s4 b3 r3 hb3 r2 hb2
        go_loopw [9] (fun iv wr => iv = .int .i64 (0 : Int) ∧ Hid (Below w6.heap.size w6 wr)) (fun iv _ => n0 - (intOf iv).toNat)
        case atStart => exact ⟨rfl, Below.refl _ _⟩
        case round =>
          obtain ⟨rfl, HB⟩ := hrel
          have HBW := Lib.hid (HB6.out.trans (HB.out.mono HB6.out.size))
          by_cases hz : 0 < n0
          · have hzl : decide ((0 : Int) < (n0 : Int)) = true := decide_eq_true (by omega)
            have hzl2 : decide (0 < n0) = true := decide_eq_true hz
            go_wp2_with fail
            go_ret
            exact ⟨rfl, HBW.out⟩
          · have hzl : decide ((0 : Int) < (n0 : Int)) = false := decide_eq_false (by omega)
            have hzl2 : decide (0 < n0) = false := decide_eq_false hz
            go_wp2_with fail
            go_ret
            exact ⟨rfl, HBW.out⟩
    · skip
      rw [if_neg (by omega)] at hb9 HC
      exact absurd hb9 (by omega)
    · skip
      rw [if_neg (by omega)] at hb9 HC
      have x1d : decide (d < -d) = false := decide_eq_false (by omega)
      have x2d : decide (-d < d) = true := decide_eq_true (by omega)
      have x3d : (d == -d) = false := by simp; omega
      have x4d : (if d < -d then -d else d) = d := if_neg (by omega)
      have hle : decide (d < -f) = false := decide_eq_false (by omega)
      by_cases hq : -f = d
      · have HD := Lib.hid (HC.out hq)
        have hqb_222 : ((-f : Int) == d) = true := by first | (simp; omega) | simp
        have hqb_223 : ((d : Int) == -f) = true := by first | (simp; omega) | simp
        clear HC hq hb9
        clear ed
        clear ef
        go_enter Try.func13, Try.ntmps13
        go_wp2_with (first
          | (go_at_call 29; refine (hls.out _ _ R0.out).mono ?_; rintro e w2 ⟨rfl, hb2⟩; have r2 := R0.out.later hb2)
          | (go_at_call 30; refine (hli.out _ _ r2).mono ?_; rintro e w3 ⟨rfl, hb3⟩; have b3 : Below w.heap.size w w3 := hb2.trans (hb3.mono hb2.size); have r3 := R0.out.later b3)
          | (go_at_call 32; refine (hlay.out _ _ r3).mono ?_; rintro e w4 ⟨u4, rfl, o4, hb4⟩; obtain ⟨p4, c4, g4, q4, rfl, nc4, f4, -⟩ := o4; have b4 : Below w.heap.size w w4 := b3.trans (hb4.mono b3.size); have l4 : RdB w4 (.slice p4 n0 c4) n0 Z := ⟨p4, c4, g4, q4, rfl, nc4, f4.wide (Nat.zero_le _) (Nat.le_refl _)⟩; have r4 := R0.out.later b4; have s4 := R1.out.later b4)
          | (go_at_call 26; (first
              | (with_reducible refine (hId.out _ _ _ r4 s4).mono ?_; rintro e w5 ⟨rfl, hb5⟩; have b5 : Below w.heap.size w w5 := b4.trans (hb5.mono b4.size); have l5 := l4.later hb5; have r5 := R0.out.later b5)
              | (with_reducible refine (hIe.out _ _ _ r5 l5).mono ?_; rintro e w6 ⟨rfl, hb6⟩; have b6 : Below w.heap.size w w6 := b5.trans (hb6.mono b5.size); have l6 := l5.later hb6; have r6 := R0.out.later b6; have s6 := R1.out.later b6)))
          | (go_at_call 23; refine (hSd.out _ _ _ r6 s6).mono ?_; rintro e w7 ⟨rfl, rfl⟩))
        have HB6 := Lib.hid b6
        have HL := Lib.hid l6
        clear b6 l6 b5 l5 hb5 hb6 r5 r6 s6 l4 f4 b4 hb4 r4 s4 b3 r3 hb3 r2 hb2
        go_loopw [9] (fun iv wr => ∃ (k : Nat), k ≤ n0 ∧ iv = .int .i64 (k : Int) ∧ Hid (∀ j, j < k → Z j = z1 j) ∧ Hid (Below w6.heap.size w6 wr)) (fun iv _ => n0 - (intOf iv).toNat)
        case atStart => exact ⟨0, by omega, rfl, fun j hj => absurd hj (by omega), Below.refl _ _⟩
        case round =>
          obtain ⟨k, hk, rfl, HP, HB⟩ := hrel
          by_cases hkn : k < n0
          · have HBW := Lib.hid (HB6.out.trans (HB.out.mono HB6.out.size))
            obtain ⟨p5, c5, g5, q5, e5, nc5, f5⟩ := HL.out
            injection e5 with e51 e52 e53
            subst e51
            obtain ⟨rfl, -, hg5⟩ := f5.1 (by omega)
            obtain ⟨rfl, -, hg1⟩ := H1.out.1 (by omega)
            have a0 := (HB.out.cell (p := ⟨g5, q5 + k, none⟩) hg5).trans (f5.bool k hkn)
            have a1 := (HBW.out.cell (p := ⟨g1, o1 + k, none⟩) hg1).trans (H1.out.bool k hkn)
            have hk0 : (0 : Int) ≤ (k : Int) := by omega
            have hkl : (k : Int) < (n0 : Int) := by omega
            have hwk : IntKind.i64.wrap ((k : Int) + 1) = (k : Int) + 1 := IntWalk.i64_in _ (by omega)
            have HYE := Lib.hid (fun (hh : Z k = z1 k) (j : Nat) (hj : j < k + 1) => show Z j = z1 j from by
              by_cases e : j = k
              · subst e; exact hh
              · exact HP.out j (by omega))
            have HNE := Lib.hid (HD.out k hkn HP.out)
            obtain ⟨x, hx⟩ : ∃ x, x = Z k := ⟨_, rfl⟩
            obtain ⟨y, hy⟩ : ∃ y, y = z1 k := ⟨_, rfl⟩
            rw [← hx] at a0 HYE HNE
            rw [← hy] at a1 HYE HNE
            clear hx hy f5 HP nc5 e52 e53
            by_cases hxy : x = y
            · subst hxy
              have HP2 := Lib.hid (HYE.out rfl)
              clear HYE HNE
              cases x
              all_goals
                go_wp2_with fail
                go_quiet (fail)
                go_wp2_with fail
                go_roundw
                case rel => exact ⟨k + 1, by omega, by congr 1, HP2.out, below_drewN' HB.out _⟩
                case measure => simp only [intOf]; omega
            · have hne : (x != y) = true := by simpa using hxy
              obtain rfl : x = true := HNE.out hxy
              obtain rfl : y = false := by cases y <;> simp_all
              clear HYE HNE hxy hne
              go_wp2_with fail
              go_quiet (fail)
              go_wp2_with fail
              go_ret
              exact ⟨rfl, below_drewN' HBW.out _⟩
          · obtain rfl : k = n0 := by omega
            have HBW := Lib.hid (HB6.out.trans (HB.out.mono HB6.out.size))
            go_wp2_with fail
            go_ret
            exact ⟨rfl, HBW.out⟩
      · skip
        have hqb_292 : ((-f : Int) == d) = false := by first | (simp; omega) | simp
        have hqb_293 : ((d : Int) == -f) = false := by first | (simp; omega) | simp
        clear HC hq hb9
        clear ed
        clear ef
        go_enter Try.func13, Try.ntmps13
        go_wp2_with (first
          | (go_at_call 29; refine (hls.out _ _ R0.out).mono ?_; rintro e w2 ⟨rfl, hb2⟩; have r2 := R0.out.later hb2)
          | (go_at_call 30; refine (hli.out _ _ r2).mono ?_; rintro e w3 ⟨rfl, hb3⟩; have b3 : Below w.heap.size w w3 := hb2.trans (hb3.mono hb2.size); have r3 := R0.out.later b3)
          | (go_at_call 32; refine (hlay.out _ _ r3).mono ?_; rintro e w4 ⟨u4, rfl, o4, hb4⟩; obtain ⟨p4, c4, g4, q4, rfl, nc4, f4, -⟩ := o4; have b4 : Below w.heap.size w w4 := b3.trans (hb4.mono b3.size); have l4 : RdB w4 (.slice p4 n0 c4) n0 Z := ⟨p4, c4, g4, q4, rfl, nc4, f4.wide (Nat.zero_le _) (Nat.le_refl _)⟩; have r4 := R0.out.later b4; have s4 := R1.out.later b4)
          | (go_at_call 26; (first
              | (with_reducible refine (hId.out _ _ _ r4 s4).mono ?_; rintro e w5 ⟨rfl, hb5⟩; have b5 : Below w.heap.size w w5 := b4.trans (hb5.mono b4.size); have l5 := l4.later hb5; have r5 := R0.out.later b5)
              | (with_reducible refine (hIe.out _ _ _ r5 l5).mono ?_; rintro e w6 ⟨rfl, hb6⟩; have b6 : Below w.heap.size w w6 := b5.trans (hb6.mono b5.size); have l6 := l5.later hb6; have r6 := R0.out.later b6; have s6 := R1.out.later b6)))
          | (go_at_call 23; refine (hSd.out _ _ _ r6 s6).mono ?_; rintro e w7 ⟨rfl, rfl⟩))
        have HB6 := Lib.hid b6
        clear b6 l6 b5 l5 hb5 hb6 r5 r6 s6 l4 f4 b4 hb4 r4 s4 b3 r3 hb3 r2 hb2
        go_loopw [9] (fun iv wr => iv = .int .i64 (0 : Int) ∧ Hid (Below w6.heap.size w6 wr)) (fun iv _ => n0 - (intOf iv).toNat)
        case atStart => exact ⟨rfl, Below.refl _ _⟩
        case round =>
          obtain ⟨rfl, HB⟩ := hrel
          have HBW := Lib.hid (HB6.out.trans (HB.out.mono HB6.out.size))
          by_cases hz : 0 < n0
          · have hzl : decide ((0 : Int) < (n0 : Int)) = true := decide_eq_true (by omega)
            have hzl2 : decide (0 < n0) = true := decide_eq_true hz
            go_wp2_with fail
            go_ret
            exact ⟨rfl, HBW.out⟩
          · have hzl : decide ((0 : Int) < (n0 : Int)) = false := decide_eq_false (by omega)
            have hzl2 : decide (0 < n0) = false := decide_eq_false hz
            go_wp2_with fail
            go_ret
            exact ⟨rfl, HBW.out⟩
  · skip
    rw [if_neg (by omega)] at ha
    subst ef
    subst ha
    have hVf : ((0 : Int) != 0) = false := by simp
    rcases Int.lt_trichotomy d 0 with ed | ed | ed
    · skip
      rw [if_pos ed] at hb9 HC
      have x1d : decide (d < -d) = true := decide_eq_true (by omega)
      have x2d : decide (-d < d) = false := decide_eq_false (by omega)
      have x3d : (d == -d) = false := by simp; omega
      have x4d : (if d < -d then -d else d) = -d := if_pos (by omega)
      have hle : decide (-d < 0) = false := decide_eq_false (by omega)
      have hle2 : decide (0 < d) = false := decide_eq_false (by omega)
      have hqb_338 : ((0 : Int) == -d) = false := by first | (simp; omega) | simp
      have hqb_339 : ((-d : Int) == 0) = false := by first | (simp; omega) | simp
      have hqb_340 : ((0 : Int) == d) = false := by first | (simp; omega) | simp
      have hqb_341 : ((d : Int) == 0) = false := by first | (simp; omega) | simp
      clear HC hb9
      clear ed
      go_enter Try.func13, Try.ntmps13
      go_wp2_with (first
        | (go_at_call 29; refine (hls.out _ _ R0.out).mono ?_; rintro e w2 ⟨rfl, hb2⟩; have r2 := R0.out.later hb2)
        | (go_at_call 30; refine (hli.out _ _ r2).mono ?_; rintro e w3 ⟨rfl, hb3⟩; have b3 : Below w.heap.size w w3 := hb2.trans (hb3.mono hb2.size); have r3 := R0.out.later b3)
        | (go_at_call 32; refine (hlay.out _ _ r3).mono ?_; rintro e w4 ⟨u4, rfl, o4, hb4⟩; obtain ⟨p4, c4, g4, q4, rfl, nc4, f4, -⟩ := o4; have b4 : Below w.heap.size w w4 := b3.trans (hb4.mono b3.size); have l4 : RdB w4 (.slice p4 n0 c4) n0 Z := ⟨p4, c4, g4, q4, rfl, nc4, f4.wide (Nat.zero_le _) (Nat.le_refl _)⟩; have r4 := R0.out.later b4; have s4 := R1.out.later b4)
        | (go_at_call 26; (first
            | (with_reducible refine (hId.out _ _ _ r4 s4).mono ?_; rintro e w5 ⟨rfl, hb5⟩; have b5 : Below w.heap.size w w5 := b4.trans (hb5.mono b4.size); have l5 := l4.later hb5; have r5 := R0.out.later b5)
            | (with_reducible refine (hIe.out _ _ _ r5 l5).mono ?_; rintro e w6 ⟨rfl, hb6⟩; have b6 : Below w.heap.size w w6 := b5.trans (hb6.mono b5.size); have l6 := l5.later hb6; have r6 := R0.out.later b6; have s6 := R1.out.later b6)))
        | (go_at_call 23; refine (hSd.out _ _ _ r6 s6).mono ?_; rintro e w7 ⟨rfl, rfl⟩))
      have HB6 := Lib.hid b6
      clear b6 l6 b5 l5 hb5 hb6 r5 r6 s6 l4 f4 b4 hb4 r4 s4 b3 r3 hb3 r2 hb2
      go_loopw [9] (fun iv wr => iv = .int .i64 (0 : Int) ∧ Hid (Below w6.heap.size w6 wr)) (fun iv _ => n0 - (intOf iv).toNat)
      case atStart => exact ⟨rfl, Below.refl _ _⟩
      case round =>
        obtain ⟨rfl, HB⟩ := hrel
        have HBW := Lib.hid (HB6.out.trans (HB.out.mono HB6.out.size))
        by_cases hz : 0 < n0
        · have hzl : decide ((0 : Int) < (n0 : Int)) = true := decide_eq_true (by omega)
          have hzl2 : decide (0 < n0) = true := decide_eq_true hz
          go_wp2_with fail
          go_ret
          exact ⟨rfl, HBW.out⟩
        · have hzl : decide ((0 : Int) < (n0 : Int)) = false := decide_eq_false (by omega)
          have hzl2 : decide (0 < n0) = false := decide_eq_false hz
          go_wp2_with fail
          go_ret
          exact ⟨rfl, HBW.out⟩
    · skip
      rw [if_neg (by omega)] at hb9 HC
      subst ed
      have hle : decide (0 < 0) = false := decide_eq_false (by omega)
      have HD := Lib.hid (HC.out rfl)
      clear HC hb9
      go_enter Try.func13, Try.ntmps13
      go_wp2_with (first
        | (go_at_call 29; refine (hls.out _ _ R0.out).mono ?_; rintro e w2 ⟨rfl, hb2⟩; have r2 := R0.out.later hb2)
        | (go_at_call 30; refine (hli.out _ _ r2).mono ?_; rintro e w3 ⟨rfl, hb3⟩; have b3 : Below w.heap.size w w3 := hb2.trans (hb3.mono hb2.size); have r3 := R0.out.later b3)
        | (go_at_call 32; refine (hlay.out _ _ r3).mono ?_; rintro e w4 ⟨u4, rfl, o4, hb4⟩; obtain ⟨p4, c4, g4, q4, rfl, nc4, f4, -⟩ := o4; have b4 : Below w.heap.size w w4 := b3.trans (hb4.mono b3.size); have l4 : RdB w4 (.slice p4 n0 c4) n0 Z := ⟨p4, c4, g4, q4, rfl, nc4, f4.wide (Nat.zero_le _) (Nat.le_refl _)⟩; have r4 := R0.out.later b4; have s4 := R1.out.later b4)
        | (go_at_call 26; (first
            | (with_reducible refine (hId.out _ _ _ r4 s4).mono ?_; rintro e w5 ⟨rfl, hb5⟩; have b5 : Below w.heap.size w w5 := b4.trans (hb5.mono b4.size); have l5 := l4.later hb5; have r5 := R0.out.later b5)
            | (with_reducible refine (hIe.out _ _ _ r5 l5).mono ?_; rintro e w6 ⟨rfl, hb6⟩; have b6 : Below w.heap.size w w6 := b5.trans (hb6.mono b5.size); have l6 := l5.later hb6; have r6 := R0.out.later b6; have s6 := R1.out.later b6)))
        | (go_at_call 23; refine (hSd.out _ _ _ r6 s6).mono ?_; rintro e w7 ⟨rfl, rfl⟩))
      have HB6 := Lib.hid b6
      have HL := Lib.hid l6
      clear b6 l6 b5 l5 hb5 hb6 r5 r6 s6 l4 f4 b4 hb4 r4 s4 b3 r3 hb3 r2 hb2
      go_loopw [9] (fun iv wr => ∃ (k : Nat), k ≤ n0 ∧ iv = .int .i64 (k : Int) ∧ Hid (∀ j, j < k → Z j = z1 j) ∧ Hid (Below w6.heap.size w6 wr)) (fun iv _ => n0 - (intOf iv).toNat)
      case atStart => exact ⟨0, by omega, rfl, fun j hj => absurd hj (by omega), Below.refl _ _⟩
      case round =>
        obtain ⟨k, hk, rfl, HP, HB⟩ := hrel
        by_cases hkn : k < n0
        · have HBW := Lib.hid (HB6.out.trans (HB.out.mono HB6.out.size))
          obtain ⟨p5, c5, g5, q5, e5, nc5, f5⟩ := HL.out
          injection e5 with e51 e52 e53
          subst e51
          obtain ⟨rfl, -, hg5⟩ := f5.1 (by omega)
          obtain ⟨rfl, -, hg1⟩ := H1.out.1 (by omega)
          have a0 := (HB.out.cell (p := ⟨g5, q5 + k, none⟩) hg5).trans (f5.bool k hkn)
          have a1 := (HBW.out.cell (p := ⟨g1, o1 + k, none⟩) hg1).trans (H1.out.bool k hkn)
          have hk0 : (0 : Int) ≤ (k : Int) := by omega
          have hkl : (k : Int) < (n0 : Int) := by omega
          have hwk : IntKind.i64.wrap ((k : Int) + 1) = (k : Int) + 1 := IntWalk.i64_in _ (by omega)
          have HYE := Lib.hid (fun (hh : Z k = z1 k) (j : Nat) (hj : j < k + 1) => show Z j = z1 j from by
            by_cases e : j = k
            · subst e; exact hh
            · exact HP.out j (by omega))
          have HNE := Lib.hid (HD.out k hkn HP.out)
          obtain ⟨x, hx⟩ : ∃ x, x = Z k := ⟨_, rfl⟩
          obtain ⟨y, hy⟩ : ∃ y, y = z1 k := ⟨_, rfl⟩
          rw [← hx] at a0 HYE HNE
          rw [← hy] at a1 HYE HNE
          clear hx hy f5 HP nc5 e52 e53
          by_cases hxy : x = y
          · subst hxy
            have HP2 := Lib.hid (HYE.out rfl)
            clear HYE HNE
            cases x
            all_goals
              go_wp2_with fail
              go_quiet (fail)
              go_wp2_with fail
              go_roundw
              case rel => exact ⟨k + 1, by omega, by congr 1, HP2.out, below_drewN' HB.out _⟩
              case measure => simp only [intOf]; omega
          · have hne : (x != y) = true := by simpa using hxy
            obtain rfl : x = true := HNE.out hxy
            obtain rfl : y = false := by cases y <;> simp_all
            clear HYE HNE hxy hne
            go_wp2_with fail
            go_quiet (fail)
            go_wp2_with fail
            go_ret
            exact ⟨rfl, below_drewN' HBW.out _⟩
        · obtain rfl : k = n0 := by omega
          have HBW := Lib.hid (HB6.out.trans (HB.out.mono HB6.out.size))
          go_wp2_with fail
          go_ret
          exact ⟨rfl, HBW.out⟩
    · skip
      rw [if_neg (by omega)] at hb9 HC
      have x1d : decide (d < -d) = false := decide_eq_false (by omega)
      have x2d : decide (-d < d) = true := decide_eq_true (by omega)
      have x3d : (d == -d) = false := by simp; omega
      have x4d : (if d < -d then -d else d) = d := if_neg (by omega)
      have hle : decide (d < 0) = false := decide_eq_false (by omega)
      have hqb_448 : ((0 : Int) == d) = false := by first | (simp; omega) | simp
      have hqb_449 : ((d : Int) == 0) = false := by first | (simp; omega) | simp
      clear HC hb9
      clear ed
      go_enter Try.func13, Try.ntmps13
      go_wp2_with (first
        | (go_at_call 29; refine (hls.out _ _ R0.out).mono ?_; rintro e w2 ⟨rfl, hb2⟩; have r2 := R0.out.later hb2)
        | (go_at_call 30; refine (hli.out _ _ r2).mono ?_; rintro e w3 ⟨rfl, hb3⟩; have b3 : Below w.heap.size w w3 := hb2.trans (hb3.mono hb2.size); have r3 := R0.out.later b3)
        | (go_at_call 32; refine (hlay.out _ _ r3).mono ?_; rintro e w4 ⟨u4, rfl, o4, hb4⟩; obtain ⟨p4, c4, g4, q4, rfl, nc4, f4, -⟩ := o4; have b4 : Below w.heap.size w w4 := b3.trans (hb4.mono b3.size); have l4 : RdB w4 (.slice p4 n0 c4) n0 Z := ⟨p4, c4, g4, q4, rfl, nc4, f4.wide (Nat.zero_le _) (Nat.le_refl _)⟩; have r4 := R0.out.later b4; have s4 := R1.out.later b4)
        | (go_at_call 26; (first
            | (with_reducible refine (hId.out _ _ _ r4 s4).mono ?_; rintro e w5 ⟨rfl, hb5⟩; have b5 : Below w.heap.size w w5 := b4.trans (hb5.mono b4.size); have l5 := l4.later hb5; have r5 := R0.out.later b5)
            | (with_reducible refine (hIe.out _ _ _ r5 l5).mono ?_; rintro e w6 ⟨rfl, hb6⟩; have b6 : Below w.heap.size w w6 := b5.trans (hb6.mono b5.size); have l6 := l5.later hb6; have r6 := R0.out.later b6; have s6 := R1.out.later b6)))
        | (go_at_call 23; refine (hSd.out _ _ _ r6 s6).mono ?_; rintro e w7 ⟨rfl, rfl⟩))
      have HB6 := Lib.hid b6
      clear b6 l6 b5 l5 hb5 hb6 r5 r6 s6 l4 f4 b4 hb4 r4 s4 b3 r3 hb3 r2 hb2
      go_loopw [9] (fun iv wr => iv = .int .i64 (0 : Int) ∧ Hid (Below w6.heap.size w6 wr)) (fun iv _ => n0 - (intOf iv).toNat)
      case atStart => exact ⟨rfl, Below.refl _ _⟩
      case round =>
        obtain ⟨rfl, HB⟩ := hrel
        have HBW := Lib.hid (HB6.out.trans (HB.out.mono HB6.out.size))
        by_cases hz : 0 < n0
        · have hzl : decide ((0 : Int) < (n0 : Int)) = true := decide_eq_true (by omega)
          have hzl2 : decide (0 < n0) = true := decide_eq_true hz
          go_wp2_with fail
          go_ret
          exact ⟨rfl, HBW.out⟩
        · have hzl : decide ((0 : Int) < (n0 : Int)) = false := decide_eq_false (by omega)
          have hzl2 : decide (0 < n0) = false := decide_eq_false hz
          go_wp2_with fail
          go_ret
          exact ⟨rfl, HBW.out⟩
  · skip
    rw [if_neg (by omega)] at ha
    have x1f : decide (f < -f) = false := decide_eq_false (by omega)
    have x2f : decide (-f < f) = true := decide_eq_true (by omega)
    have x3f : (f == -f) = false := by simp; omega
    have x4f : (if f < -f then -f else f) = f := if_neg (by omega)
    subst ha
    have hVf : ((f : Int) != f) = false := by simp
    rcases Int.lt_trichotomy d 0 with ed | ed | ed
    · skip
      rw [if_pos ed] at hb9 HC
      have x1d : decide (d < -d) = true := decide_eq_true (by omega)
      have x2d : decide (-d < d) = false := decide_eq_false (by omega)
      have x3d : (d == -d) = false := by simp; omega
      have x4d : (if d < -d then -d else d) = -d := if_pos (by omega)
      have hle : decide (-d < f) = false := decide_eq_false (by omega)
      by_cases hq : f = -d
      · have HD := Lib.hid (HC.out hq)
        have hqb_497 : ((f : Int) == -d) = true := by first | (simp; omega) | simp
        have hqb_498 : ((-d : Int) == f) = true := by first | (simp; omega) | simp
        clear HC hq hb9
        clear ed
        clear ef
        go_enter Try.func13, Try.ntmps13
        go_wp2_with (first
          | (go_at_call 29; refine (hls.out _ _ R0.out).mono ?_; rintro e w2 ⟨rfl, hb2⟩; have r2 := R0.out.later hb2)
          | (go_at_call 30; refine (hli.out _ _ r2).mono ?_; rintro e w3 ⟨rfl, hb3⟩; have b3 : Below w.heap.size w w3 := hb2.trans (hb3.mono hb2.size); have r3 := R0.out.later b3)
          | (go_at_call 32; refine (hlay.out _ _ r3).mono ?_; rintro e w4 ⟨u4, rfl, o4, hb4⟩; obtain ⟨p4, c4, g4, q4, rfl, nc4, f4, -⟩ := o4; have b4 : Below w.heap.size w w4 := b3.trans (hb4.mono b3.size); have l4 : RdB w4 (.slice p4 n0 c4) n0 Z := ⟨p4, c4, g4, q4, rfl, nc4, f4.wide (Nat.zero_le _) (Nat.le_refl _)⟩; have r4 := R0.out.later b4; have s4 := R1.out.later b4)
          | (go_at_call 26; (first
              | (with_reducible refine (hId.out _ _ _ r4 s4).mono ?_; rintro e w5 ⟨rfl, hb5⟩; have b5 : Below w.heap.size w w5 := b4.trans (hb5.mono b4.size); have l5 := l4.later hb5; have r5 := R0.out.later b5)
              | (with_reducible refine (hIe.out _ _ _ r5 l5).mono ?_; rintro e w6 ⟨rfl, hb6⟩; have b6 : Below w.heap.size w w6 := b5.trans (hb6.mono b5.size); have l6 := l5.later hb6; have r6 := R0.out.later b6; have s6 := R1.out.later b6)))
          | (go_at_call 23; refine (hSd.out _ _ _ r6 s6).mono ?_; rintro e w7 ⟨rfl, rfl⟩))
        have HB6 := Lib.hid b6
        have HL := Lib.hid l6
        clear b6 l6 b5 l5 hb5 hb6 r5 r6 s6 l4 f4 b4 hb4 r4 s4 b3 r3 hb3 r2 hb2
        go_loopw [9] (fun iv wr => ∃ (k : Nat), k ≤ n0 ∧ iv = .int .i64 (k : Int) ∧ Hid (∀ j, j < k → Z j = z1 j) ∧ Hid (Below w6.heap.size w6 wr)) (fun iv _ => n0 - (intOf iv).toNat)
        case atStart => exact ⟨0, by omega, rfl, fun j hj => absurd hj (by omega), Below.refl _ _⟩
        case round =>
          obtain ⟨k, hk, rfl, HP, HB⟩ := hrel
          by_cases hkn : k < n0
          · have HBW := Lib.hid (HB6.out.trans (HB.out.mono HB6.out.size))
            obtain ⟨p5, c5, g5, q5, e5, nc5, f5⟩ := HL.out
            injection e5 with e51 e52 e53
            subst e51
            obtain ⟨rfl, -, hg5⟩ := f5.1 (by omega)
            obtain ⟨rfl, -, hg1⟩ := H1.out.1 (by omega)
            have a0 := (HB.out.cell (p := ⟨g5, q5 + k, none⟩) hg5).trans (f5.bool k hkn)
            have a1 := (HBW.out.cell (p := ⟨g1, o1 + k, none⟩) hg1).trans (H1.out.bool k hkn)
            have hk0 : (0 : Int) ≤ (k : Int) := by omega
            have hkl : (k : Int) < (n0 : Int) := by omega
            have hwk : IntKind.i64.wrap ((k : Int) + 1) = (k : Int) + 1 := IntWalk.i64_in _ (by omega)
            have HYE := Lib.hid (fun (hh : Z k = z1 k) (j : Nat) (hj : j < k + 1) => show Z j = z1 j from by
              by_cases e : j = k
              · subst e; exact hh
              · exact HP.out j (by omega))
            have HNE := Lib.hid (HD.out k hkn HP.out)
            obtain ⟨x, hx⟩ : ∃ x, x = Z k := ⟨_, rfl⟩
            obtain ⟨y, hy⟩ : ∃ y, y = z1 k := ⟨_, rfl⟩
            rw [← hx] at a0 HYE HNE
            rw [← hy] at a1 HYE HNE
            clear hx hy f5 HP nc5 e52 e53
            by_cases hxy : x = y
            · subst hxy
              have HP2 := Lib.hid (HYE.out rfl)
              clear HYE HNE
              cases x
              all_goals
                go_wp2_with fail
                go_quiet (fail)
                go_wp2_with fail
                go_roundw
                case rel => exact ⟨k + 1, by omega, by congr 1, HP2.out, below_drewN' HB.out _⟩
                case measure => simp only [intOf]; omega
            · have hne : (x != y) = true := by simpa using hxy
              obtain rfl : x = true := HNE.out hxy
              obtain rfl : y = false := by cases y <;> simp_all
              clear HYE HNE hxy hne
              go_wp2_with fail
              go_quiet (fail)
              go_wp2_with fail
              go_ret
              exact ⟨rfl, below_drewN' HBW.out _⟩
          · obtain rfl : k = n0 := by omega
            have HBW := Lib.hid (HB6.out.trans (HB.out.mono HB6.out.size))
            go_wp2_with fail
            go_ret
            exact ⟨rfl, HBW.out⟩
      · skip
        have hqb_567 : ((f : Int) == -d) = false := by first | (simp; omega) | simp
        have hqb_568 : ((-d : Int) == f) = false := by first | (simp; omega) | simp
        clear HC hq hb9
        clear ed
        clear ef
        go_enter Try.func13, Try.ntmps13
        go_wp2_with (first
          | (go_at_call 29; refine (hls.out _ _ R0.out).mono ?_; rintro e w2 ⟨rfl, hb2⟩; have r2 := R0.out.later hb2)
          | (go_at_call 30; refine (hli.out _ _ r2).mono ?_; rintro e w3 ⟨rfl, hb3⟩; have b3 : Below w.heap.size w w3 := hb2.trans (hb3.mono hb2.size); have r3 := R0.out.later b3)
          | (go_at_call 32; refine (hlay.out _ _ r3).mono ?_; rintro e w4 ⟨u4, rfl, o4, hb4⟩; obtain ⟨p4, c4, g4, q4, rfl, nc4, f4, -⟩ := o4; have b4 : Below w.heap.size w w4 := b3.trans (hb4.mono b3.size); have l4 : RdB w4 (.slice p4 n0 c4) n0 Z := ⟨p4, c4, g4, q4, rfl, nc4, f4.wide (Nat.zero_le _) (Nat.le_refl _)⟩; have r4 := R0.out.later b4; have s4 := R1.out.later b4)
          | (go_at_call 26; (first
              | (with_reducible refine (hId.out _ _ _ r4 s4).mono ?_; rintro e w5 ⟨rfl, hb5⟩; have b5 : Below w.heap.size w w5 := b4.trans (hb5.mono b4.size); have l5 := l4.later hb5; have r5 := R0.out.later b5)
              | (with_reducible refine (hIe.out _ _ _ r5 l5).mono ?_; rintro e w6 ⟨rfl, hb6⟩; have b6 : Below w.heap.size w w6 := b5.trans (hb6.mono b5.size); have l6 := l5.later hb6; have r6 := R0.out.later b6; have s6 := R1.out.later b6)))
          | (go_at_call 23; refine (hSd.out _ _ _ r6 s6).mono ?_; rintro e w7 ⟨rfl, rfl⟩))
        have HB6 := Lib.hid b6
        clear b6 l6 b5 l5 hb5 hb6 r5 r6 s6 l4 f4 b4 hb4 r4 s4 b3 r3 hb3 r2 hb2
        go_loopw [9] (fun iv wr => iv = .int .i64 (0 : Int) ∧ Hid (Below w6.heap.size w6 wr)) (fun iv _ => n0 - (intOf iv).toNat)
        case atStart => exact ⟨rfl, Below.refl _ _⟩
        case round =>
          obtain ⟨rfl, HB⟩ := hrel
          have HBW := Lib.hid (HB6.out.trans (HB.out.mono HB6.out.size))
          by_cases hz : 0 < n0
          · have hzl : decide ((0 : Int) < (n0 : Int)) = true := decide_eq_true (by omega)
            have hzl2 : decide (0 < n0) = true := decide_eq_true hz
            go_wp2_with fail
            go_ret
            exact ⟨rfl, HBW.out⟩
          · have hzl : decide ((0 : Int) < (n0 : Int)) = false := decide_eq_false (by omega)
            have hzl2 : decide (0 < n0) = false := decide_eq_false hz
            go_wp2_with fail
            go_ret
            exact ⟨rfl, HBW.out⟩
    · skip
      rw [if_neg (by omega)] at hb9 HC
      exact absurd hb9 (by omega)
    · skip
      rw [if_neg (by omega)] at hb9 HC
      have x1d : decide (d < -d) = false := decide_eq_false (by omega)
      have x2d : decide (-d < d) = true := decide_eq_true (by omega)
      have x3d : (d == -d) = false := by simp; omega
      have x4d : (if d < -d then -d else d) = d := if_neg (by omega)
      have hle : decide (d < f) = false := decide_eq_false (by omega)
      by_cases hq : f = d
      · have HD := Lib.hid (HC.out hq)
        have hqb_611 : ((f : Int) == d) = true := by first | (simp; omega) | simp
        have hqb_612 : ((d : Int) == f) = true := by first | (simp; omega) | simp
        clear HC hq hb9
        clear ed
        clear ef
        go_enter Try.func13, Try.ntmps13
        go_wp2_with (first
          | (go_at_call 29; refine (hls.out _ _ R0.out).mono ?_; rintro e w2 ⟨rfl, hb2⟩; have r2 := R0.out.later hb2)
          | (go_at_call 30; refine (hli.out _ _ r2).mono ?_; rintro e w3 ⟨rfl, hb3⟩; have b3 : Below w.heap.size w w3 := hb2.trans (hb3.mono hb2.size); have r3 := R0.out.later b3)
          | (go_at_call 32; refine (hlay.out _ _ r3).mono ?_; rintro e w4 ⟨u4, rfl, o4, hb4⟩; obtain ⟨p4, c4, g4, q4, rfl, nc4, f4, -⟩ := o4; have b4 : Below w.heap.size w w4 := b3.trans (hb4.mono b3.size); have l4 : RdB w4 (.slice p4 n0 c4) n0 Z := ⟨p4, c4, g4, q4, rfl, nc4, f4.wide (Nat.zero_le _) (Nat.le_refl _)⟩; have r4 := R0.out.later b4; have s4 := R1.out.later b4)
          | (go_at_call 26; (first
              | (with_reducible refine (hId.out _ _ _ r4 s4).mono ?_; rintro e w5 ⟨rfl, hb5⟩; have b5 : Below w.heap.size w w5 := b4.trans (hb5.mono b4.size); have l5 := l4.later hb5; have r5 := R0.out.later b5)
              | (with_reducible refine (hIe.out _ _ _ r5 l5).mono ?_; rintro e w6 ⟨rfl, hb6⟩; have b6 : Below w.heap.size w w6 := b5.trans (hb6.mono b5.size); have l6 := l5.later hb6; have r6 := R0.out.later b6; have s6 := R1.out.later b6)))
          | (go_at_call 23; refine (hSd.out _ _ _ r6 s6).mono ?_; rintro e w7 ⟨rfl, rfl⟩))
        have HB6 := Lib.hid b6
        have HL := Lib.hid l6
        clear b6 l6 b5 l5 hb5 hb6 r5 r6 s6 l4 f4 b4 hb4 r4 s4 b3 r3 hb3 r2 hb2
        go_loopw [9] (fun iv wr => ∃ (k : Nat), k ≤ n0 ∧ iv = .int .i64 (k : Int) ∧ Hid (∀ j, j < k → Z j = z1 j) ∧ Hid (Below w6.heap.size w6 wr)) (fun iv _ => n0 - (intOf iv).toNat)
        case atStart => exact ⟨0, by omega, rfl, fun j hj => absurd hj (by omega), Below.refl _ _⟩
        case round =>
          obtain ⟨k, hk, rfl, HP, HB⟩ := hrel
          by_cases hkn : k < n0
          · have HBW := Lib.hid (HB6.out.trans (HB.out.mono HB6.out.size))
            obtain ⟨p5, c5, g5, q5, e5, nc5, f5⟩ := HL.out
            injection e5 with e51 e52 e53
            subst e51
            obtain ⟨rfl, -, hg5⟩ := f5.1 (by omega)
            obtain ⟨rfl, -, hg1⟩ := H1.out.1 (by omega)
            have a0 := (HB.out.cell (p := ⟨g5, q5 + k, none⟩) hg5).trans (f5.bool k hkn)
            have a1 := (HBW.out.cell (p := ⟨g1, o1 + k, none⟩) hg1).trans (H1.out.bool k hkn)
            have hk0 : (0 : Int) ≤ (k : Int) := by omega
            have hkl : (k : Int) < (n0 : Int) := by omega
            have hwk : IntKind.i64.wrap ((k : Int) + 1) = (k : Int) + 1 := IntWalk.i64_in _ (by omega)
            have HYE := Lib.hid (fun (hh : Z k = z1 k) (j : Nat) (hj : j < k + 1) => show Z j = z1 j from by
              by_cases e : j = k
              · subst e; exact hh
              · exact HP.out j (by omega))
            have HNE := Lib.hid (HD.out k hkn HP.out)
            obtain ⟨x, hx⟩ : ∃ x, x = Z k := ⟨_, rfl⟩
            obtain ⟨y, hy⟩ : ∃ y, y = z1 k := ⟨_, rfl⟩
            rw [← hx] at a0 HYE HNE
            rw [← hy] at a1 HYE HNE
            clear hx hy f5 HP nc5 e52 e53
            by_cases hxy : x = y
            · subst hxy
              have HP2 := Lib.hid (HYE.out rfl)
              clear HYE HNE
              cases x
              all_goals
                go_wp2_with fail
                go_quiet (fail)
                go_wp2_with fail
                go_roundw
                case rel => exact ⟨k + 1, by omega, by congr 1, HP2.out, below_drewN' HB.out _⟩
                case measure => simp only [intOf]; omega
            · have hne : (x != y) = true := by simpa using hxy
              obtain rfl : x = true := HNE.out hxy
              obtain rfl : y = false := by cases y <;> simp_all
              clear HYE HNE hxy hne
              go_wp2_with fail
              go_quiet (fail)
              go_wp2_with fail
              go_ret
              exact ⟨rfl, below_drewN' HBW.out _⟩
          · obtain rfl : k = n0 := by omega
            have HBW := Lib.hid (HB6.out.trans (HB.out.mono HB6.out.size))
            go_wp2_with fail
            go_ret
            exact ⟨rfl, HBW.out⟩
      · skip
        have hqb_681 : ((f : Int) == d) = false := by first | (simp; omega) | simp
        have hqb_682 : ((d : Int) == f) = false := by first | (simp; omega) | simp
        clear HC hq hb9
        clear ed
        clear ef
        go_enter Try.func13, Try.ntmps13
        go_wp2_with (first
          | (go_at_call 29; refine (hls.out _ _ R0.out).mono ?_; rintro e w2 ⟨rfl, hb2⟩; have r2 := R0.out.later hb2)
          | (go_at_call 30; refine (hli.out _ _ r2).mono ?_; rintro e w3 ⟨rfl, hb3⟩; have b3 : Below w.heap.size w w3 := hb2.trans (hb3.mono hb2.size); have r3 := R0.out.later b3)
          | (go_at_call 32; refine (hlay.out _ _ r3).mono ?_; rintro e w4 ⟨u4, rfl, o4, hb4⟩; obtain ⟨p4, c4, g4, q4, rfl, nc4, f4, -⟩ := o4; have b4 : Below w.heap.size w w4 := b3.trans (hb4.mono b3.size); have l4 : RdB w4 (.slice p4 n0 c4) n0 Z := ⟨p4, c4, g4, q4, rfl, nc4, f4.wide (Nat.zero_le _) (Nat.le_refl _)⟩; have r4 := R0.out.later b4; have s4 := R1.out.later b4)
          | (go_at_call 26; (first
              | (with_reducible refine (hId.out _ _ _ r4 s4).mono ?_; rintro e w5 ⟨rfl, hb5⟩; have b5 : Below w.heap.size w w5 := b4.trans (hb5.mono b4.size); have l5 := l4.later hb5; have r5 := R0.out.later b5)
              | (with_reducible refine (hIe.out _ _ _ r5 l5).mono ?_; rintro e w6 ⟨rfl, hb6⟩; have b6 : Below w.heap.size w w6 := b5.trans (hb6.mono b5.size); have l6 := l5.later hb6; have r6 := R0.out.later b6; have s6 := R1.out.later b6)))
          | (go_at_call 23; refine (hSd.out _ _ _ r6 s6).mono ?_; rintro e w7 ⟨rfl, rfl⟩))
        have HB6 := Lib.hid b6
        clear b6 l6 b5 l5 hb5 hb6 r5 r6 s6 l4 f4 b4 hb4 r4 s4 b3 r3 hb3 r2 hb2
        go_loopw [9] (fun iv wr => iv = .int .i64 (0 : Int) ∧ Hid (Below w6.heap.size w6 wr)) (fun iv _ => n0 - (intOf iv).toNat)
        case atStart => exact ⟨rfl, Below.refl _ _⟩
        case round =>
          obtain ⟨rfl, HB⟩ := hrel
          have HBW := Lib.hid (HB6.out.trans (HB.out.mono HB6.out.size))
          by_cases hz : 0 < n0
          · have hzl : decide ((0 : Int) < (n0 : Int)) = true := decide_eq_true (by omega)
            have hzl2 : decide (0 < n0) = true := decide_eq_true hz
            go_wp2_with fail
            go_ret
            exact ⟨rfl, HBW.out⟩
          · have hzl : decide ((0 : Int) < (n0 : Int)) = false := decide_eq_false (by omega)
            have hzl2 : decide (0 < n0) = false := decide_eq_false hz
            go_wp2_with fail
            go_ret
            exact ⟨rfl, HBW.out⟩

/-! The row's step. -/
theorem own : ownKnob Try.prog.godebug = none := by kernel_rfl
theorem laidOut : laidOutB Try.prog = true := by kernel_rfl
set_option maxRecDepth 100000 in
theorem lifted (os : Os) (started : os.Started) (H : Type) (enc : TypeId × Value → H) :
    ReturnsInHanded {} Try.checked os 13 .any (Rows.fnEverySidesSpec.pre6 enc Try.prog Try.f13 Rows.fnEverySidesRow.domain false) (Rows.fnEverySidesSpec.post enc Try.prog Try.f13 false true false false) := by
  refine returnsInHanded_of_change (C := Try.checked) own started (by kernel_rfl) Try.func13
    (ChangeSpec.witness6 (enc := enc) (C := Try.checked) false ⟨#[], #[.slice none 0 0, .slice none 0 0], []⟩ 8 (by kernel_rfl) (by kernel_rfl) (by kernel_rfl) (by kernel_rfl)) ?_
  intro W base args ds gs before hval0 hW hcnd _
  have hval : ∀ (j : Nat) t v, Try.f13.params[j]? = some t → args[j]? = some v → Value.okWide Try.prog W .any base t v := hval0
  have hW' := hW
  obtain ⟨p, q, hA0, hV, rfl, hfz, hnd⟩ := hW
  have hA : DataW.TrodAll enc Try.prog W 0 (fun _ => true) true Try.f13.params.toList args.toList ds p := hA0
  rw [Try.params13] at hA hval
  obtain ⟨v0, vs0, d0, ds0, p0, q0, hargs, rfl, rfl, h0, r0⟩ := trodAll_cons hA
  obtain ⟨v1, vs1, d1, ds1, p1, q1, rfl, rfl, rfl, h1, r1⟩ := trodAll_cons r0
  obtain ⟨rfl, rfl, rfl⟩ := trodAll_nil r1
  obtain rfl : args = #[v0, v1] := by cases args; simp_all
  obtain ⟨rfl, rfl⟩ := trodVars_none hV
  have k0 := h0
  have lt0 : ∀ x ∈ p0, x.block < W.heap.size := by obtain ⟨m, hm⟩ := k0; exact DataW.trod_lt m _ _ _ hm
  obtain ⟨sp0, n0, c0, rfl⟩ := okWide_slice Try.underlying35 (hval 0 35 v0 rfl rfl)
  obtain ⟨z0, cm0, fl0⟩ := ints_openV h0
  have k1 := h1
  have lt1 : ∀ x ∈ p1, x.block < W.heap.size := by obtain ⟨m, hm⟩ := k1; exact DataW.trod_lt m _ _ _ hm
  obtain ⟨sp1, n1, c1, rfl⟩ := okWide_slice Try.underlying36 (hval 1 36 v1 rfl rfl)
  obtain ⟨z1, cm1, fl1⟩ := bools_openV h1
  clear hA0 hval0
  refine (walk _ n0 z0 _ n1 z1 W cm0 fl0 cm1 fl1).mono fun e W' ⟨he, bel⟩ => ?_
  subst he
  exact ⟨_, rfl, _, _, _, [], _, [], hW', trodAll_mk1 (shut_bool Try.underlying4 _), (trodAll_cons_mk (Below.trod laidOut (by kernel_rfl) (of_decide_eq_true (by kernel_rfl)) k0 bel lt0) (trodAll_cons_mk (Below.trod laidOut (by kernel_rfl) (of_decide_eq_true (by kernel_rfl)) k1 bel lt1) trodAll_mk0)), rfl, bel.frame _, fun h => by cases h⟩

theorem over : Rows.fnEverySidesRow.holds Try.pinned (OpenSpec.ofChange Rows.fnEverySidesSpec) :=
  OpenClaim.holds_of_wide 13 Try.f13 rfl rfl rfl rfl rfl rfl rfl ⟨rfl, rfl, rfl, rfl, rfl⟩ rfl rfl rfl rfl rfl (by kernel_rfl) Try.func13 (by kernel_rfl)
    (of_decide_eq_true (by kernel_rfl)) (by unfold Func.isWrapper; first | (rw [if_pos (by decide +kernel)]; kernel_rfl) | (rw [if_neg (by decide +kernel)]; exact ⟨rfl, rfl⟩))
    (fun os started H enc _ => lifted os started H enc)

/-- The statement. -/
theorem proved : Rows.FnEverySidesSaid := over
#print axioms proved
end Go.Proofs.Ytnkhjlpeeljelaa.fnEverySides
