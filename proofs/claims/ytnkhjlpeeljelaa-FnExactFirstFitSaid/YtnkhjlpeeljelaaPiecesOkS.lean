/- What the model's PiecesOk returns. -/
import Derived.Test.YtnkhjlpeeljelaaLoadPlain
import Derived.Test.YtnkhjlpeeljelaaIn
import Derived.Test.YtnkhjlpeeljelaaRowPiece
namespace Go.Proofs.Ytnkhjlpeeljelaa
open Go.RowKit
set_option linter.unusedVariables false

set_option maxRecDepth 100000 in
set_option maxHeartbeats 8000000 in
theorem sPiecesOk_any (n : Nat) (hn : n ≤ maxLen) (z : Nat → Int) (p : Option Addr) (c g o : Nat) (w : World) (h : FlatAt w 0 w.heap.size p g o (n * 3) (fun j => .int .i64 (z j))) :
    Calls Try.prog 19 #[.slice p n c] w fun e w' => e = .returned (.bool (decide (pcsOk n z))) ∧ Below w.heap.size w w' := by
  have ck := cellsPiece
  unfold maxLen at hn
  have HF := Lib.hid h
  clear h
  by_cases h3 : n ≤ 40
  rotate_left
  · have HN := Lib.hid (decide_eq_false (p := pcsOk n z) (fun h => h3 h.1))
    have hd : decide ((40 : Int) < (n : Int)) = true := decide_eq_true (by omega)
    go_enter Try.func19, Try.ntmps19
    go_wp2_with fail
    go_ret
    exact ⟨by rw [HN.out]; first | done | rfl, Below.refl _ _⟩
  have hd : decide ((40 : Int) < (n : Int)) = false := decide_eq_false (by omega)
  go_enter Try.func19, Try.ntmps19
  go_wp2_with fail
  go_loopw [3] (fun iv wr => ∃ (k : Nat), k ≤ n ∧ iv = .int .i64 (k : Int) ∧ Hid (∀ j, j < k → wcOk z j) ∧ Hid (∀ j, j < k → 1 ≤ z (j * 3)) ∧ Hid (∀ i, i < k → ∀ j, j < i → z (j * 3) ≠ z (i * 3)) ∧ Hid (Below w.heap.size w wr)) (fun iv _ => n - (intOf iv).toNat)
  case atStart => exact ⟨0, by omega, rfl, fun i hi => absurd hi (by omega), fun i hi => absurd hi (by omega), fun i hi => absurd hi (by omega), Below.refl _ _⟩
  case round =>
    obtain ⟨k, hk, rfl, HP, HQ, HD, HB⟩ := hrel
    by_cases hkn : k < n
    · obtain ⟨rfl, -, hg⟩ := HF.out.1 (by omega)
      obtain ⟨a0, a1, a2⟩ := HF.out.at3 HB.out (Nat.le_refl _) k (by omega)
      have hk0 : (0 : Int) ≤ (k : Int) := by omega
      have hkl : (k : Int) < (n : Int) := by omega
      have hwk : IntKind.i64.wrap ((k : Int) + 1) = (k : Int) + 1 := IntWalk.i64_in _ (by omega)
      have HNO := Lib.hid (fun (hh : ¬ (1 ≤ z (k * 3) ∧ wcOk z k)) => decide_eq_false (p := pcsOk n z) (fun h => hh ⟨h.2.2.1 k hkn, h.2.1 k hkn⟩))
      have HND := Lib.hid (fun (j : Nat) (hj : j < k) (hh : z (j * 3) = z (k * 3)) => decide_eq_false (p := pcsOk n z) (fun h => h.2.2.2 k hkn j hj hh))
      have HYE := Lib.hid (fun (hh : wcOk z k) (i : Nat) (hi : i < k + 1) => show wcOk z i from by
        by_cases e : i = k
        · subst e; exact hh
        · exact HP.out i (by omega))
      have HQE := Lib.hid (fun (hh : 1 ≤ z (k * 3)) (i : Nat) (hi : i < k + 1) => show 1 ≤ z (i * 3) from by
        by_cases e : i = k
        · subst e; exact hh
        · exact HQ.out i (by omega))
      have HDE := Lib.hid (fun (hh : ∀ j, j < k → z (j * 3) ≠ z (k * 3)) (i : Nat) (hi : i < k + 1) => show ∀ j, j < i → z (j * 3) ≠ z (i * 3) from by
        by_cases e : i = k
        · subst e; exact hh
        · exact HD.out i (by omega))
      obtain ⟨x0, hx0⟩ : ∃ x, x = z (k * 3) := ⟨_, rfl⟩
      obtain ⟨x1, hx1⟩ : ∃ x, x = z (k * 3 + 1) := ⟨_, rfl⟩
      obtain ⟨x2, hx2⟩ : ∃ x, x = z (k * 3 + 2) := ⟨_, rfl⟩
      have hok : wcOk z k ↔ (1 ≤ x1 ∧ x1 ≤ 60) ∧ (0 ≤ x2 ∧ x2 ≤ 5) := by rw [hx1, hx2]; exact Iff.rfl
      rw [← hx0] at a0 HNO HND HQE HDE
      rw [← hx1] at a1
      rw [← hx2] at a2
      have HOK := Lib.hid hok
      have HX0 := Lib.hid hx0
      clear hx0 hx1 hx2 hok HP HQ HD
      by_cases b0 : x0 < 1
      · have HN := Lib.hid (HNO.out (fun h => by omega))
        have hb0 : decide (x0 < 1) = true := decide_eq_true b0
        clear HNO HND HYE HQE HDE HOK b0
        go_wp2_with fail
        go_ret
        exact ⟨by rw [HN.out]; first | done | rfl, HB.out⟩
      have hb0 : decide (x0 < 1) = false := decide_eq_false b0
      rcases Bool.eq_false_or_eq_true (inB 1 60 x1) with b1 | b1
      rotate_left
      · have HN := Lib.hid (HNO.out (fun h => inB_no.1 b1 (HOK.out.1 h.2).1))
        have B1 := Lib.hid b1
        clear b1 HNO HND HYE HQE HDE HOK b0
        go_wp2_with (go_at_call 52; with_reducible refine (specIn_at B1.out _).mono ?_; rintro e w4 ⟨rfl, rfl⟩)
        go_ret
        exact ⟨by rw [HN.out]; first | done | rfl, HB.out⟩
      rcases Bool.eq_false_or_eq_true (inB 0 5 x2) with b2 | b2
      rotate_left
      · have HN := Lib.hid (HNO.out (fun h => inB_no.1 b2 (HOK.out.1 h.2).2))
        have B1 := Lib.hid b1
        have B2 := Lib.hid b2
        clear b1 b2 HNO HND HYE HQE HDE HOK b0
        go_wp2_with (first
          | (go_at_call 52; with_reducible refine (specIn_at B1.out _).mono ?_; rintro e w4 ⟨rfl, rfl⟩)
          | (go_at_call 52; with_reducible refine (specIn_at B2.out _).mono ?_; rintro e w4 ⟨rfl, rfl⟩))
        go_ret
        exact ⟨by rw [HN.out]; first | done | rfl, HB.out⟩
      have HT2 := Lib.hid (HYE.out (HOK.out.2 ⟨inB_iff.1 b1, inB_iff.1 b2⟩))
      have HQ2 := Lib.hid (HQE.out (by omega))
      have B1 := Lib.hid b1
      have B2 := Lib.hid b2
      clear b1 b2 HNO HYE HQE HOK b0
      obtain ⟨wo, rfl⟩ : ∃ wo, wo = wr := ⟨_, rfl⟩
      go_wp2_with (first
        | (go_at_call 52; with_reducible refine (specIn_at B1.out _).mono ?_; rintro e w4 ⟨rfl, rfl⟩)
        | (go_at_call 52; with_reducible refine (specIn_at B2.out _).mono ?_; rintro e w4 ⟨rfl, rfl⟩))
      go_loopw [4] (fun jv wr => ∃ (j : Nat), j ≤ k ∧ jv = .int .i64 (j : Int) ∧ Hid (∀ i, i < j → z (i * 3) ≠ x0) ∧ Hid (Below w.heap.size w wr)) (fun jv _ => k - (intOf jv).toNat)
      case atStart => exact ⟨0, by omega, rfl, fun i hi => absurd hi (by omega), HB.out⟩
      case round =>
        obtain ⟨j, hj, rfl, HJ, HBJ⟩ := hrel
        by_cases hjk : j < k
        · obtain ⟨d0, -, -⟩ := HF.out.at3 HBJ.out (Nat.le_refl _) j (by omega)
          obtain ⟨e0, -, -⟩ := HF.out.at3 HBJ.out (Nat.le_refl _) k (by omega)
          have hj0 : (0 : Int) ≤ (j : Int) := by omega
          have hjl : (j : Int) < (k : Int) := by omega
          have hjn : (j : Int) < (n : Int) := by omega
          have hwj : IntKind.i64.wrap ((j : Int) + 1) = (j : Int) + 1 := IntWalk.i64_in _ (by omega)
          rw [← HX0.out] at e0
          have HNJ := Lib.hid (HND.out j hjk)
          have HJY := Lib.hid (fun (hh : z (j * 3) ≠ x0) (i : Nat) (hi : i < j + 1) => show z (i * 3) ≠ x0 from by
            by_cases e : i = j
            · subst e; exact hh
            · exact HJ.out i (by omega))
          obtain ⟨y0, hy0⟩ : ∃ y, y = z (j * 3) := ⟨_, rfl⟩
          rw [← hy0] at d0 HNJ HJY
          clear hy0 HJ
          by_cases he : y0 = x0
          · have hb : (y0 == x0) = true := by simpa using he
            have HN := Lib.hid (HNJ.out he)
            clear he HNJ HJY
            go_wp2_with fail
            go_quiet (fail)
            go_wp2_with fail
            go_ret
            exact ⟨by rw [HN.out]; first | done | rfl, below_drewN' HBJ.out _⟩
          · have hb : (y0 == x0) = false := by simpa using he
            have HJ2 := Lib.hid (HJY.out he)
            clear he HNJ HJY
            go_wp2_with fail
            go_quiet (fail)
            go_wp2_with fail
            go_roundw
            case rel => exact ⟨j + 1, by omega, by congr 1, HJ2.out, below_drewN' HBJ.out _⟩
            case measure => simp only [intOf]; omega
        · obtain rfl : j = k := by omega
          have HD2 := Lib.hid (HDE.out HJ.out)
          go_wp2_with fail
          go_roundw
          case rel => exact ⟨j + 1, by omega, by congr 1, HT2.out, HQ2.out, HD2.out, HBJ.out⟩
          case measure => simp only [intOf]; omega
    · obtain rfl : k = n := by omega
      have HE := Lib.hid (decide_eq_true (p := pcsOk k z) ⟨h3, HP.out, HQ.out, HD.out⟩)
      go_wp2_with fail
      go_ret
      exact ⟨by rw [HE.out]; first | done | rfl, HB.out⟩

theorem sPiecesOk_v (n : Nat) (hn : n ≤ maxLen) (z : Nat → Int) (v : Value) (w : World) (h : Rd w v n (n * 3) z) :
    Calls Try.prog 19 #[v] w fun e w' => e = .returned (.bool (decide (pcsOk n z))) ∧ Below w.heap.size w w' := by
  obtain ⟨p, c, g, o, rfl, -, h⟩ := h
  exact sPiecesOk_any n hn z p c g o w h

end Go.Proofs.Ytnkhjlpeeljelaa
