/- What the model's LeastDifference returns. -/
import Derived.Test.YtnkhjlpeeljelabSideS
import Derived.Test.YtnkhjlpeeljelabLeastDiffI
namespace Go.Proofs.Ytnkhjlpeeljelab
open Go.RowKit
set_option linter.unusedVariables false

set_option maxRecDepth 100000 in
set_option maxHeartbeats 4000000 in
theorem sLeastDiff_any (n : Nat) (hn : n ≤ maxLen) (z : Nat → Int) (p : Option Addr) (c g o : Nat) (w : World) (hc : n ≤ c) (h : FlatAt w 0 w.heap.size p g o n (fun j => .int .i64 (z j))) :
    Calls Try.prog 26 #[.slice p n c] w fun e w' => e = .returned (.int .i64 (ldI n z)) ∧ Below w.heap.size w w' := by
  have hr : Rd w (.slice p n c) n n z := ⟨p, c, g, o, rfl, hc, h⟩
  have HR0 := Lib.hid hr
  have HF := Lib.hid h
  clear h hr
  by_cases hn12 : n ≤ 12
  rotate_left
  · have HN := Lib.hid (show ldI n z = -1 from if_neg (fun h => hn12 h.1))
    have hd : decide ((12 : Int) < (n : Int)) = true := decide_eq_true (by omega)
    have hd2 : decide (12 < n) = true := decide_eq_true (by omega)
    clear hn12
    go_enter Try.func26, Try.ntmps26
    go_wp2_with fail
    go_ret
    exact ⟨by rw [HN.out]; first | done | rfl, Below.refl _ _⟩
  have hd : decide ((12 : Int) < (n : Int)) = false := decide_eq_false (by omega)
  have hd2 : decide (12 < n) = false := decide_eq_false (by omega)
  have h2 := two_pow12 hn12
  obtain ⟨T, hT⟩ : ∃ T, T = 2 ^ n := ⟨_, rfl⟩
  rw [← hT] at h2
  have HT := Lib.hid hT
  have hsh : IntKind.i64.wrap (1 * 2 ^ n) = (T : Int) := by
    rw [hT, Int.one_mul, show (2 : Int) ^ n = ((2 ^ n : Nat) : Int) from by rw [Int.natCast_pow]; rfl]
    exact IntWalk.i64_in _ (by have := two_pow12 hn12; omega)
  have hsh2 : IntKind.i64.wrap (2 ^ n) = (T : Int) := by rw [← hsh, Int.one_mul]
  clear hT
  go_enter Try.func26, Try.ntmps26
  go_wp2_with fail
  go_loopw [3, 4] (fun sv iv wr => ∃ (k : Nat), k ≤ n ∧ iv = .int .i64 (k : Int) ∧ sv = .int .i64 (smZ z k) ∧ Hid (∀ j, j < k → inB 0 2000 (z j) = true) ∧ w = wr) (fun _ iv _ => n - (intOf iv).toNat)
  case atStart => exact ⟨0, by omega, rfl, rfl, fun j hj => absurd hj (by omega), rfl⟩
  case round =>
    obtain ⟨k, hk, rfl, rfl, HP, rfl⟩ := hrel
    have hsm := smZ_in (z := z) (n := k) (fun j hj => inB_iff.1 (HP.out j hj))
    by_cases hkn : k < n
    · obtain ⟨rfl, -, hg⟩ := HF.out.1 (by omega)
      have a0 := HF.out.int k hkn
      have hk0 : (0 : Int) ≤ (k : Int) := by omega
      have hkl : (k : Int) < (n : Int) := by omega
      have hwk : IntKind.i64.wrap ((k : Int) + 1) = (k : Int) + 1 := IntWalk.i64_in _ (by omega)
      have HSE := Lib.hid (show smZ z (k + 1) = smZ z k + z k from rfl)
      have HNO := Lib.hid (fun (hh : inB 0 2000 (z k) = false) => show ldI n z = -1 from if_neg (fun h => inB_no.1 hh (h.2 k hkn)))
      have HYE := Lib.hid (fun (hh : inB 0 2000 (z k) = true) (j : Nat) (hj : j < k + 1) => show inB 0 2000 (z j) = true from by
        by_cases e : j = k
        · subst e; exact hh
        · exact HP.out j (by omega))
      obtain ⟨s, hs⟩ : ∃ s, s = smZ z k := ⟨_, rfl⟩
      obtain ⟨x, hx⟩ : ∃ x, x = z k := ⟨_, rfl⟩
      rw [← hs] at hsm HSE ⊢
      rw [← hx] at a0 HSE HNO HYE
      clear hs hx HP
      rcases Bool.eq_false_or_eq_true (inB 0 2000 x) with b1 | b1
      rotate_left
      · have HN := Lib.hid (HNO.out b1)
        have B1 := Lib.hid b1
        clear b1 HNO HYE HSE hsm
        go_wp2_with (go_at_call 59; with_reducible refine (specIn_at B1.out _).mono ?_; rintro e w4 ⟨rfl, rfl⟩)
        go_ret
        exact ⟨by rw [HN.out]; first | done | rfl, Below.refl _ _⟩
      have hzk := inB_iff.1 b1
      have HP2 := Lib.hid (HYE.out b1)
      have B1 := Lib.hid b1
      have hw1 : IntKind.i64.wrap (s + x) = s + x := IntWalk.i64_in _ (by omega)
      clear b1 HNO HYE hsm hzk
      go_wp2_with (go_at_call 59; with_reducible refine (specIn_at B1.out _).mono ?_; rintro e w4 ⟨rfl, rfl⟩)
      go_roundw
      case rel => exact ⟨k + 1, by omega, by congr 1, by rw [HSE.out], HP2.out, by first | rfl | trivial⟩
      case measure => simp only [intOf]; omega
    · obtain rfl : k = n := by omega
      have hws : wsOk 0 k z := ⟨hn12, fun j hj => inB_iff.1 (HP.out j hj)⟩
      have HE := Lib.hid (show ldI k z = ldV k z from if_pos hws)
      have HV := Lib.hid (show mnW (amt k z) (smZ z k) T = ldV k z from by rw [HT.out]; rfl)
      have HWS := Lib.hid hws.low
      clear hws HP
      obtain ⟨s0, hs0⟩ : ∃ s, s = smZ z k := ⟨_, rfl⟩
      rw [← hs0] at hsm HV ⊢
      clear hs0
      obtain ⟨wo, rfl⟩ : ∃ wo, wo = w := ⟨_, rfl⟩
      go_wp2_with fail
      go_loopw [5, 6] (fun sv iv wr => ∃ (i : Nat), i ≤ T ∧ iv = .int .i64 (i : Int) ∧ sv = .int .i64 (mnW (amt k z) s0 i) ∧ Hid (Below wo.heap.size wo wr)) (fun _ iv _ => T - (intOf iv).toNat)
      case atStart => exact ⟨0, by omega, rfl, rfl, Below.refl _ _⟩
      case round =>
        obtain ⟨i, hi, rfl, rfl, HB⟩ := hrel
        obtain ⟨A, hA⟩ : ∃ A, A = mnW (amt k z) s0 i := ⟨_, rfl⟩
        have HA := Lib.hid hA
        rw [← hA]
        clear hA
        by_cases hiT : i < T
        · have hk0 : (0 : Int) ≤ (i : Int) := by omega
          have hkl : (i : Int) < (T : Int) := by omega
          have hwk : IntKind.i64.wrap ((i : Int) + 1) = (i : Int) + 1 := IntWalk.i64_in _ (by omega)
          have hsd := Lib.hid (fun W (hW : Below wo.heap.size wo W) v (hv : RdB W v k (sdl k i)) => sSide_v k hn z (.slice p k c) k hn (sdl k i) v W (HR0.out.later hW) hv)
          have hin := sdI_in HWS.out (sdl k i)
          have ham := amt_side HWS.out i
          have HAE := Lib.hid (show mnW (amt k z) s0 (i + 1) = if amt k z i < mnW (amt k z) s0 i then amt k z i else mnW (amt k z) s0 i from rfl)
          rw [← HA.out] at HAE
          obtain ⟨S, hS⟩ : ∃ S, S = sdI k z k (sdl k i) := ⟨_, rfl⟩
          obtain ⟨Y, hY⟩ : ∃ Y, Y = amt k z i := ⟨_, rfl⟩
          rw [← hS] at hsd hin ham
          rw [← hY] at ham HAE
          have hamt := Lib.hid (fun W => sAmount_any S Y hin.1 hin.2 ham W)
          clear hS hY hin ham
          have hsides := Lib.hid (fun W => sSides_any k hn12 i (by omega) W)
          rcases Int.lt_trichotomy Y A with h | h | h
          · have d1 : decide (Y < A) = true := decide_eq_true h
            have d2 : decide (A < Y) = false := decide_eq_false (by omega)
            have d3 : (A == Y) = false := by simp; omega
            have HA2 := Lib.hid (HAE.out.trans (if_pos h))
            clear HAE
            go_wp2_with (first
              | (go_at_call 65; refine (hsides.out _).mono ?_; rintro e w4 ⟨v4, rfl, o4, hb4⟩; have b4 : Below wo.heap.size wo w4 := HB.out.trans (hb4.mono HB.out.size); have r4 := o4.rd (Nat.le_refl _))
              | (go_at_call 31; refine (hsd.out _ b4 v4 r4).mono ?_; rintro e w5 ⟨rfl, rfl⟩)
              | (go_at_call 64; refine (hamt.out _).mono ?_; rintro e w6 ⟨rfl, rfl⟩))
            go_roundw
            case rel => exact ⟨i + 1, by omega, by congr 1, by rw [HA2.out], b4⟩
            case measure => simp only [intOf]; omega
          · subst h
            have HA2 := Lib.hid (HAE.out.trans (if_neg (by omega)))
            clear HAE
            go_wp2_with (first
              | (go_at_call 65; refine (hsides.out _).mono ?_; rintro e w4 ⟨v4, rfl, o4, hb4⟩; have b4 : Below wo.heap.size wo w4 := HB.out.trans (hb4.mono HB.out.size); have r4 := o4.rd (Nat.le_refl _))
              | (go_at_call 31; refine (hsd.out _ b4 v4 r4).mono ?_; rintro e w5 ⟨rfl, rfl⟩)
              | (go_at_call 64; refine (hamt.out _).mono ?_; rintro e w6 ⟨rfl, rfl⟩))
            go_roundw
            case rel => exact ⟨i + 1, by omega, by congr 1, by rw [HA2.out], b4⟩
            case measure => simp only [intOf]; omega
          · have d1 : decide (Y < A) = false := decide_eq_false (by omega)
            have d2 : decide (A < Y) = true := decide_eq_true h
            have d3 : (A == Y) = false := by simp; omega
            have HA2 := Lib.hid (HAE.out.trans (if_neg (by omega)))
            clear HAE
            go_wp2_with (first
              | (go_at_call 65; refine (hsides.out _).mono ?_; rintro e w4 ⟨v4, rfl, o4, hb4⟩; have b4 : Below wo.heap.size wo w4 := HB.out.trans (hb4.mono HB.out.size); have r4 := o4.rd (Nat.le_refl _))
              | (go_at_call 31; refine (hsd.out _ b4 v4 r4).mono ?_; rintro e w5 ⟨rfl, rfl⟩)
              | (go_at_call 64; refine (hamt.out _).mono ?_; rintro e w6 ⟨rfl, rfl⟩))
            go_roundw
            case rel => exact ⟨i + 1, by omega, by congr 1, by rw [HA2.out], b4⟩
            case measure => simp only [intOf]; omega
        · obtain rfl : i = T := by omega
          have HR := Lib.hid (HE.out.trans (HV.out.symm.trans HA.out.symm))
          go_wp2_with fail
          go_ret
          exact ⟨by rw [HR.out]; first | done | rfl, HB.out⟩


theorem sLeastDiff_v (n : Nat) (hn : n ≤ maxLen) (z : Nat → Int) (v : Value) (w : World) (h : Rd w v n n z) :
    Calls Try.prog 26 #[v] w fun e w' => e = .returned (.int .i64 (ldI n z)) ∧ Below w.heap.size w w' := by
  obtain ⟨p, c, g, o, rfl, hc, h⟩ := h
  exact sLeastDiff_any n hn z p c g o w hc h

end Go.Proofs.Ytnkhjlpeeljelab
