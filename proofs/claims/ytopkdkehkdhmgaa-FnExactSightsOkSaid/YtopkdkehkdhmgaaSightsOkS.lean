/- What the model's SightsOk returns. -/
import Derived.Test.YtopkdkehkdhmgaaHasS
import Derived.Test.YtopkdkehkdhmgaaIn
import Derived.Deep.LoopGhost
namespace Go.Proofs.Ytopkdkehkdhmgaa
open Go.RowKit
set_option linter.unusedVariables false

set_option maxRecDepth 100000 in
set_option maxHeartbeats 4000000 in
theorem sSightsOk_any (n : Nat) (hn : n ≤ maxLen) (s : Nat → Int) (p : Option Addr) (c g o : Nat) (w : World) (h : FlatAt w 0 w.heap.size p g o (n * 2) (fun j => .int .i64 (s j))) :
    Calls Try.prog 16 #[.slice p n c] w fun e w' => e = .returned (.bool (siB n s)) ∧ Below w.heap.size w w' := by
  unfold maxLen at hn
  have c3 := cellsnamed
  have HF := Lib.hid h
  clear h
  by_cases h3 : n ≤ 6
  · go_enter Try.func16, Try.ntmps16
    go_wp2_with fail
    go_loopw [3] (fun v wr => ∃ k : Nat, k ≤ n ∧ v = .int .i64 (k : Int) ∧ Below w.heap.size w wr ∧ Hid (∀ j, j < k → okS s j)) (fun v _ => n - (intOf v).toNat)
    case atStart => exact ⟨0, by omega, rfl, Below.refl _ _, fun j hj => absurd hj (by omega)⟩
    case round =>
      obtain ⟨k, hk, rfl, hbw, HN⟩ := hrel
      obtain ⟨wq, rfl⟩ : ∃ wq, wq = wr := ⟨_, rfl⟩
      by_cases hkn : k < n
      · obtain ⟨rfl, -, hg⟩ := HF.out.1 (by omega)
        obtain ⟨a0, a1⟩ := HF.out.at2 hbw (Nat.le_refl _) k (by omega)
        have hk0 : (0 : Int) ≤ (k : Int) := by omega
        have hkl : (k : Int) < (n : Int) := by omega
        have hnk : ∀ X : okS s k → False, siB n s = false := fun X => siB_no (fun h => X (h.2 k hkn))
        have hp0 := prT_lo k HN.out
        have hps : 0 < k → ∃ i, k = i + 1 ∧ prT s k = s (i * 2) := fun h => ⟨k - 1, by omega, by obtain ⟨i, rfl⟩ : ∃ i, k = i + 1 := ⟨k - 1, by omega⟩; rfl⟩
        obtain ⟨pt, hpt⟩ : ∃ x, x = prT s k := ⟨_, rfl⟩
        obtain ⟨x0, hx0⟩ : ∃ x, x = s (k * 2) := ⟨_, rfl⟩
        obtain ⟨x1, hx1⟩ : ∃ x, x = s (k * 2 + 1) := ⟨_, rfl⟩
        have hok : okS s k ↔ pt ≤ x0 ∧ x0 ≤ 100000 ∧ 0 ≤ x1 ∧ (x1 = 0 ∨ ¬ hasS s k x1) := by rw [hpt, hx0, hx1]; exact Iff.rfl
        have hz0 : k = 0 → pt = 0 := by rintro rfl; exact hpt
        rw [← hpt] at hp0 hps
        rw [← hx0] at a0
        rw [← hx1] at a1
        have HX1 := Lib.hid hx1
        have HOK := Lib.hid hok
        have HNK := Lib.hid hnk
        have HPS := Lib.hid hps
        clear hx0 hx1 hpt hok hnk hps
        rcases Bool.eq_false_or_eq_true (inB 0 100000 x0) with b1 | b1
        rotate_left
        · have B1 := Lib.hid b1
          have hbx := inB_no.1 b1
          clear b1 HPS hz0
          have HE : Hid (siB n s = false) := HNK.out (fun h => by have hh := HOK.out.1 h; omega)
          clear HNK HOK HN
          go_wp2_with fail
          go_quiet ((go_at_call 52; exact Calls.quiet_of_same (specIn_eq B1.out _)))
          go_wp2_with fail
          go_ret
          exact ⟨(congrArg (fun b => Ending.returned (Value.bool b)) HE.out).symm, below_drewN' hbw _⟩
        · have B1 := Lib.hid b1
          obtain ⟨y0, y1⟩ := inB_iff.1 b1
          clear b1
          by_cases b2 : x1 < 0
          · have b2d : decide (x1 < 0) = true := decide_eq_true b2
            clear HPS hz0
            have HE : Hid (siB n s = false) := HNK.out (fun h => by have hh := HOK.out.1 h; omega)
            clear HNK HOK HN
            go_wp2_with fail
            go_quiet ((go_at_call 52; exact Calls.quiet_of_same (specIn_eq B1.out _)))
            go_wp2_with fail
            go_ret
            exact ⟨(congrArg (fun b => Ending.returned (Value.bool b)) HE.out).symm, below_drewN' hbw _⟩
          · have b2d : decide (x1 < 0) = false := decide_eq_false b2
            by_cases hk1 : k = 0
            · have HC : Hid (pt ≤ x0) := by have := hz0 hk1; show pt ≤ x0; omega
              have hgt' : decide ((0 : Int) < (k : Int)) = false := decide_eq_false (by omega)
              have hgt2 : decide (0 < k) = false := decide_eq_false (by omega)
              clear hz0 HPS hk1
              go_wp2_with fail
              go_quiet ((go_at_call 52; exact Calls.quiet_of_same (specIn_eq B1.out _)))
              go_wp2_with fail
              have hbo : Below w.heap.size w (wq.drewN nq) := below_drewN' hbw _
              obtain ⟨wo, hwo⟩ : ∃ wo, wo = wq.drewN nq := ⟨_, rfl⟩
              rw [← hwo] at hbo ⊢
              have HBO := Lib.hid hbo
              clear hwo hbo b2d a0 a1 hgt' hgt2
              go_loopw [4] (fun v wi => ∃ j : Nat, j ≤ k ∧ v = .int .i64 (j : Int) ∧ Below w.heap.size w wi ∧ Hid (x1 = 0 ∨ ∀ i, i < j → s (i * 2 + 1) ≠ x1)) (fun v _ => k - (intOf v).toNat)
              case atStart => exact ⟨0, by omega, rfl, HBO.out, .inr (fun i hi => absurd hi (by omega))⟩
              case round =>
                obtain ⟨j, hj, rfl, hbi, HJ⟩ := hrel
                by_cases hjk : j < k
                · obtain ⟨-, d0⟩ := HF.out.at2 hbi (Nat.le_refl _) j (by omega)
                  obtain ⟨-, e0⟩ := HF.out.at2 hbi (Nat.le_refl _) k (by omega)
                  have hj0 : (0 : Int) ≤ (j : Int) := by omega
                  have hjn : (j : Int) < (n : Int) := by omega
                  have hjk' : (j : Int) < (k : Int) := by omega
                  rw [← HX1.out] at e0
                  by_cases b5 : x1 = 0
                  · have HB5 := Lib.hid b5
                    have b5d : (x1 != 0) = false := by simpa using b5
                    clear b5
                    go_wp2_with fail
                    go_quiet (fail)
                    go_wp2_with fail
                    go_roundw
                    case rel => exact ⟨j + 1, by omega, by congr 1, below_drewN' hbi _, .inl HB5.out⟩
                    case measure => simp only [intOf]; omega
                  · have b5d : (x1 != 0) = true := by simpa using b5
                    have HB5 := Lib.hid b5
                    clear b5
                    by_cases hx : s (j * 2 + 1) = x1
                    · have HE : Hid (siB n s = false) := HNK.out (fun h => by
                        rcases (HOK.out.1 h).2.2.2 with h | h
                        · exact HB5.out h
                        · exact h ⟨j, hjk, hx⟩)
                      rw [hx] at d0
                      clear hx
                      go_wp2_with fail
                      go_quiet (fail)
                      go_wp2_with fail
                      go_ret
                      exact ⟨(congrArg (fun b => Ending.returned (Value.bool b)) HE.out).symm, below_drewN' hbi _⟩
                    · have HX := Lib.hid hx
                      obtain ⟨y0, hy0⟩ : ∃ y, y = s (j * 2 + 1) := ⟨_, rfl⟩
                      have hne : (y0 == x1) = false := by rw [hy0]; simpa using hx
                      rw [← hy0] at d0
                      clear hx hy0
                      go_wp2_with fail
                      go_quiet (fail)
                      go_wp2_with fail
                      go_roundw
                      case rel => exact ⟨j + 1, by omega, by congr 1, below_drewN' hbi _, .inr (fun i hi => by
                        by_cases e : i = j
                        · subst e; exact HX.out
                        · exact (HJ.out.resolve_left HB5.out) i (by omega))⟩
                      case measure => simp only [intOf]; omega
                · obtain rfl : j = k := by omega
                  have HOKT : Hid (okS s j) := HOK.out.2 ⟨HC.out, y1, by omega, HJ.out.imp id (fun h ⟨i, hi, e⟩ => h i hi e)⟩
                  go_wp2_with fail
                  go_roundw
                  case rel => exact ⟨j + 1, by omega, by congr 1, hbi, fun i hi => by
                    by_cases e : i = j
                    · subst e; exact HOKT.out
                    · exact HN.out i (by omega)⟩
                  case measure => simp only [intOf]; omega
            · obtain ⟨i, rfl, rfl⟩ := HPS.out (by omega)
              obtain ⟨q0, -⟩ := HF.out.at2 hbw (Nat.le_refl _) i (by omega)
              obtain ⟨t0, ht0⟩ : ∃ y, y = s (i * 2) := ⟨_, rfl⟩
              rw [← ht0] at q0 HOK hp0
              have hk1 : ((i + 1 : Nat) : Int) - 1 = (i : Int) := by omega
              have hi0 : (0 : Int) ≤ (i : Int) := by omega
              have hin : (i : Int) < (n : Int) := by omega
              have hgt : (0 : Int) < ((i + 1 : Nat) : Int) := by omega
              have hgt' : decide ((0 : Int) < ((i + 1 : Nat) : Int)) = true := decide_eq_true hgt
              have hgt2 : decide ((0 : Int) < (i : Int) + 1) = true := decide_eq_true (by omega)
              have hgt3 : decide (0 < i + 1) = true := decide_eq_true (by omega)
              clear hz0 HPS ht0
              by_cases b4 : x0 < t0
              · have b4d : decide (x0 < t0) = true := decide_eq_true b4
                have HE : Hid (siB n s = false) := HNK.out (fun h => by have hh := HOK.out.1 h; omega)
                clear HNK HOK HN
                go_wp2_with fail
                go_quiet ((go_at_call 52; exact Calls.quiet_of_same (specIn_eq B1.out _)))
                go_wp2_with fail
                go_ret
                exact ⟨(congrArg (fun b => Ending.returned (Value.bool b)) HE.out).symm, below_drewN' hbw _⟩
              · have b4d : decide (x0 < t0) = false := decide_eq_false b4
                have HC : Hid (t0 ≤ x0) := by show t0 ≤ x0; omega
                go_wp2_with fail
                go_quiet ((go_at_call 52; exact Calls.quiet_of_same (specIn_eq B1.out _)))
                go_wp2_with fail
                have hbo : Below w.heap.size w (wq.drewN nq) := below_drewN' hbw _
                obtain ⟨wo, hwo⟩ : ∃ wo, wo = wq.drewN nq := ⟨_, rfl⟩
                rw [← hwo] at hbo ⊢
                have HBO := Lib.hid hbo
                clear hwo hbo b2d b4d hgt' hgt2 hgt3 hk1 a0 a1 q0
                go_loopw [4] (fun v wi => ∃ j : Nat, j ≤ (i + 1) ∧ v = .int .i64 (j : Int) ∧ Below w.heap.size w wi ∧ Hid (x1 = 0 ∨ ∀ a, a < j → s (a * 2 + 1) ≠ x1)) (fun v _ => (i + 1) - (intOf v).toNat)
                case atStart => exact ⟨0, by omega, rfl, HBO.out, .inr (fun a hi => absurd hi (by omega))⟩
                case round =>
                  obtain ⟨j, hj, rfl, hbi, HJ⟩ := hrel
                  by_cases hjk : j < (i + 1)
                  · obtain ⟨-, d0⟩ := HF.out.at2 hbi (Nat.le_refl _) j (by omega)
                    obtain ⟨-, e0⟩ := HF.out.at2 hbi (Nat.le_refl _) (i + 1) (by omega)
                    have hj0 : (0 : Int) ≤ (j : Int) := by omega
                    have hjn : (j : Int) < (n : Int) := by omega
                    have hjk' : (j : Int) < ((i + 1) : Int) := by omega
                    rw [← HX1.out] at e0
                    by_cases b5 : x1 = 0
                    · have HB5 := Lib.hid b5
                      have b5d : (x1 != 0) = false := by simpa using b5
                      clear b5
                      go_wp2_with fail
                      go_quiet (fail)
                      go_wp2_with fail
                      go_roundw
                      case rel => exact ⟨j + 1, by omega, by congr 1, below_drewN' hbi _, .inl HB5.out⟩
                      case measure => simp only [intOf]; omega
                    · have b5d : (x1 != 0) = true := by simpa using b5
                      have HB5 := Lib.hid b5
                      clear b5
                      by_cases hx : s (j * 2 + 1) = x1
                      · have HE : Hid (siB n s = false) := HNK.out (fun h => by
                          rcases (HOK.out.1 h).2.2.2 with h | h
                          · exact HB5.out h
                          · exact h ⟨j, hjk, hx⟩)
                        rw [hx] at d0
                        clear hx
                        go_wp2_with fail
                        go_quiet (fail)
                        go_wp2_with fail
                        go_ret
                        exact ⟨(congrArg (fun b => Ending.returned (Value.bool b)) HE.out).symm, below_drewN' hbi _⟩
                      · have HX := Lib.hid hx
                        obtain ⟨y0, hy0⟩ : ∃ y, y = s (j * 2 + 1) := ⟨_, rfl⟩
                        have hne : (y0 == x1) = false := by rw [hy0]; simpa using hx
                        rw [← hy0] at d0
                        clear hx hy0
                        go_wp2_with fail
                        go_quiet (fail)
                        go_wp2_with fail
                        go_roundw
                        case rel => exact ⟨j + 1, by omega, by congr 1, below_drewN' hbi _, .inr (fun a hi => by
                          by_cases e : a = j
                          · subst e; exact HX.out
                          · exact (HJ.out.resolve_left HB5.out) a (by omega))⟩
                        case measure => simp only [intOf]; omega
                  · obtain rfl : j = i + 1 := by omega
                    have HOKT : Hid (okS s (i + 1)) := HOK.out.2 ⟨HC.out, y1, by omega, HJ.out.imp id (fun h ⟨a, hi, e⟩ => h a hi e)⟩
                    go_wp2_with fail
                    go_roundw
                    case rel => exact ⟨i + 1 + 1, by omega, by congr 1, hbi, fun a hi => by
                      by_cases e : a = i + 1
                      · subst e; exact HOKT.out
                      · exact HN.out a (by omega)⟩
                    case measure => simp only [intOf]; omega
      · obtain rfl : k = n := by omega
        have HE : Hid (siB k s = true) := siB_yes ⟨h3, HN.out⟩
        go_wp2_with fail
        go_ret
        exact ⟨(congrArg (fun b => Ending.returned (Value.bool b)) HE.out).symm, hbw⟩
  · have HE : Hid (siB n s = false) := siB_no (fun h => h3 h.1)
    go_enter Try.func16, Try.ntmps16
    go_wp2_with fail
    go_ret
    exact ⟨(congrArg (fun b => Ending.returned (Value.bool b)) HE.out).symm, Below.refl _ _⟩

end Go.Proofs.Ytopkdkehkdhmgaa
