/- What the model's ExpectOk returns. -/
import Derived.Test.YtopkdkehkdhmgaaHasE
import Derived.Test.YtopkdkehkdhmgaaIn
import Derived.Deep.LoopGhost
namespace Go.Proofs.Ytopkdkehkdhmgaa
open Go.RowKit
set_option linter.unusedVariables false

set_option maxRecDepth 100000 in
set_option maxHeartbeats 4000000 in
theorem sExpectOk_any (n : Nat) (hn : n ≤ maxLen) (z : Nat → Int) (p : Option Addr) (c g o : Nat) (w : World) (h : FlatAt w 0 w.heap.size p g o (n * 3) (fun j => .int .i64 (z j))) :
    Calls Try.prog 15 #[.slice p n c] w fun e w' => e = .returned (.bool (exB n z)) ∧ Below w.heap.size w w' := by
  unfold maxLen at hn
  have c3 := cellsexpected
  have HF := Lib.hid h
  clear h
  by_cases h3 : n ≤ 6
  · go_enter Try.func15, Try.ntmps15
    go_wp2_with fail
    go_loopw [3] (fun v wr => ∃ k : Nat, k ≤ n ∧ v = .int .i64 (k : Int) ∧ Below w.heap.size w wr ∧ Hid (∀ j, j < k → okE z j)) (fun v _ => n - (intOf v).toNat)
    case atStart => exact ⟨0, by omega, rfl, Below.refl _ _, fun j hj => absurd hj (by omega)⟩
    case round =>
      obtain ⟨k, hk, rfl, hbw, HN⟩ := hrel
      obtain ⟨wq, rfl⟩ : ∃ wq, wq = wr := ⟨_, rfl⟩
      by_cases hkn : k < n
      · obtain ⟨rfl, -, hg⟩ := HF.out.1 (by omega)
        obtain ⟨a0, a1, a2⟩ := HF.out.at3 hbw (Nat.le_refl _) k (by omega)
        have hk0 : (0 : Int) ≤ (k : Int) := by omega
        have hkl : (k : Int) < (n : Int) := by omega
        have hnk : ∀ X : okE z k → False, exB n z = false := fun X => exB_no (fun h => X (h.2 k hkn))
        obtain ⟨x0, hx0⟩ : ∃ x, x = z (k * 3) := ⟨_, rfl⟩
        obtain ⟨x1, hx1⟩ : ∃ x, x = z (k * 3 + 1) := ⟨_, rfl⟩
        obtain ⟨x2, hx2⟩ : ∃ x, x = z (k * 3 + 2) := ⟨_, rfl⟩
        have hok : okE z k ↔ 1 ≤ x0 ∧ ¬ hasE z k x0 ∧ 0 ≤ x1 ∧ x1 ≤ x2 ∧ x2 ≤ 100000 := by rw [hx0, hx1, hx2]; exact Iff.rfl
        rw [← hx0] at a0
        rw [← hx1] at a1
        rw [← hx2] at a2
        have HX0 := Lib.hid hx0
        have HOK := Lib.hid hok
        have HNK := Lib.hid hnk
        clear hx0 hx1 hx2 hok hnk
        have hbad : ∀ d1 d2 d3 d4 : Bool, d1 = decide (x0 < 1) → d2 = decide (x1 < 0) → d3 = decide (x2 < x1) → d4 = decide (100000 < x2) → (d1 || d2 || d3 || d4) = true → exB n z = false := by
          rintro d1 d2 d3 d4 rfl rfl rfl rfl hd
          refine HNK.out (fun h => ?_)
          have := HOK.out.1 h
          simp at hd
          omega
        have HBAD := Lib.hid hbad
        clear hbad
        by_cases b1 : x0 < 1
        · have b1d : decide (x0 < 1) = true := decide_eq_true b1
          have HE : Hid (exB n z = false) := HBAD.out _ _ _ _ rfl rfl rfl rfl (by simp [b1])
          go_wp2_with fail
          go_quiet (fail)
          go_wp2_with fail
          go_ret
          exact ⟨(congrArg (fun b => Ending.returned (Value.bool b)) HE.out).symm, below_drewN' hbw _⟩
        · have b1d : decide (x0 < 1) = false := decide_eq_false b1
          by_cases b2 : x1 < 0
          · have b2d : decide (x1 < 0) = true := decide_eq_true b2
            have HE : Hid (exB n z = false) := HBAD.out _ _ _ _ rfl rfl rfl rfl (by simp [b2])
            go_wp2_with fail
            go_quiet (fail)
            go_wp2_with fail
            go_ret
            exact ⟨(congrArg (fun b => Ending.returned (Value.bool b)) HE.out).symm, below_drewN' hbw _⟩
          · have b2d : decide (x1 < 0) = false := decide_eq_false b2
            by_cases b3 : x2 < x1
            · have b3d : decide (x2 < x1) = true := decide_eq_true b3
              have HE : Hid (exB n z = false) := HBAD.out _ _ _ _ rfl rfl rfl rfl (by simp [b3])
              go_wp2_with fail
              go_quiet (fail)
              go_wp2_with fail
              go_ret
              exact ⟨(congrArg (fun b => Ending.returned (Value.bool b)) HE.out).symm, below_drewN' hbw _⟩
            · have b3d : decide (x2 < x1) = false := decide_eq_false b3
              by_cases b4 : 100000 < x2
              · have b4d : decide (100000 < x2) = true := decide_eq_true b4
                have HE : Hid (exB n z = false) := HBAD.out _ _ _ _ rfl rfl rfl rfl (by simp [b4])
                go_wp2_with fail
                go_quiet (fail)
                go_wp2_with fail
                go_ret
                exact ⟨(congrArg (fun b => Ending.returned (Value.bool b)) HE.out).symm, below_drewN' hbw _⟩
              · have b4d : decide (100000 < x2) = false := decide_eq_false b4
                go_wp2_with fail
                go_quiet (fail)
                go_wp2_with fail
                have hbo : Below w.heap.size w (wq.drewN nq) := below_drewN' hbw _
                obtain ⟨wo, hwo⟩ : ∃ wo, wo = wq.drewN nq := ⟨_, rfl⟩
                rw [← hwo] at hbo ⊢
                have HBO := Lib.hid hbo
                clear hwo hbo a0 a1 a2 b1d b2d b3d b4d
                go_loopw [4] (fun v wi => ∃ j : Nat, j ≤ k ∧ v = .int .i64 (j : Int) ∧ Below w.heap.size w wi ∧ Hid (∀ i, i < j → z (i * 3) ≠ x0)) (fun v _ => k - (intOf v).toNat)
                case atStart => exact ⟨0, by omega, rfl, HBO.out, fun i hi => absurd hi (by omega)⟩
                case round =>
                  obtain ⟨j, hj, rfl, hbi, HJ⟩ := hrel
                  by_cases hjk : j < k
                  · obtain ⟨d0, -, -⟩ := HF.out.at3 hbi (Nat.le_refl _) j (by omega)
                    obtain ⟨e0, -, -⟩ := HF.out.at3 hbi (Nat.le_refl _) k (by omega)
                    have hj0 : (0 : Int) ≤ (j : Int) := by omega
                    have hjn : (j : Int) < (n : Int) := by omega
                    have hjk' : (j : Int) < (k : Int) := by omega
                    rw [← HX0.out] at e0
                    by_cases hx : z (j * 3) = x0
                    · have HE : Hid (exB n z = false) := HNK.out (fun h => (HOK.out.1 h).2.1 ⟨j, hjk, hx⟩)
                      rw [hx] at d0
                      clear hx
                      go_wp2_with fail
                      go_quiet (fail)
                      go_wp2_with fail
                      go_ret
                      exact ⟨(congrArg (fun b => Ending.returned (Value.bool b)) HE.out).symm, below_drewN' hbi _⟩
                    · have HX := Lib.hid hx
                      obtain ⟨y0, hy0⟩ : ∃ y, y = z (j * 3) := ⟨_, rfl⟩
                      have hne : (y0 == x0) = false := by rw [hy0]; simpa using hx
                      rw [← hy0] at d0
                      clear hx hy0
                      go_wp2_with fail
                      go_quiet (fail)
                      go_wp2_with fail
                      go_roundw
                      case rel => exact ⟨j + 1, by omega, by congr 1, below_drewN' hbi _, fun i hi => by
                        by_cases e : i = j
                        · subst e; exact HX.out
                        · exact HJ.out i (by omega)⟩
                      case measure => simp only [intOf]; omega
                  · obtain rfl : j = k := by omega
                    have HOKT : Hid (okE z j) := HOK.out.2 ⟨b1, fun ⟨i, hi, e⟩ => HJ.out i hi e, b2, b3, b4⟩
                    go_wp2_with fail
                    go_roundw
                    case rel => exact ⟨j + 1, by omega, by congr 1, hbi, fun i hi => by
                      by_cases e : i = j
                      · subst e; exact HOKT.out
                      · exact HN.out i (by omega)⟩
                    case measure => simp only [intOf]; omega
      · obtain rfl : k = n := by omega
        have HE : Hid (exB k z = true) := exB_yes ⟨h3, HN.out⟩
        go_wp2_with fail
        go_ret
        exact ⟨(congrArg (fun b => Ending.returned (Value.bool b)) HE.out).symm, hbw⟩
  · have HE : Hid (exB n z = false) := exB_no (fun h => h3 h.1)
    go_enter Try.func15, Try.ntmps15
    go_wp2_with fail
    go_ret
    exact ⟨(congrArg (fun b => Ending.returned (Value.bool b)) HE.out).symm, Below.refl _ _⟩

end Go.Proofs.Ytopkdkehkdhmgaa
