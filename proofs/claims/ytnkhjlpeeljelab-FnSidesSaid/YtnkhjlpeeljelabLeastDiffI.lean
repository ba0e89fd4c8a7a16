/- What the program's LeastDifference returns. -/
import Derived.Test.YtnkhjlpeeljelabSideI
import Derived.Test.YtnkhjlpeeljelabSides
namespace Go.Proofs.Ytnkhjlpeeljelab
open Go.RowKit
set_option linter.unusedVariables false

theorem two_pow12 {n : Nat} (h : n ≤ 12) : 1 ≤ 2 ^ n ∧ 2 ^ n ≤ 4096 := ⟨Nat.two_pow_pos n, Nat.pow_le_pow_right (by decide) h⟩
theorem amt_side {n : Nat} {z : Nat → Int} (h : wsOk (-2000) n z) (y : Nat) : (if sdI n z n (sdl n y) < 0 then -(sdI n z n (sdl n y)) else sdI n z n (sdl n y)) = amt n z y := by
  rw [show sdI n z n (sdl n y) = sgn z (sdl n y) n from if_pos ⟨rfl, h⟩]; rfl
theorem sdI_in {n : Nat} {z : Nat → Int} (h : wsOk (-2000) n z) (b : Nat → Bool) : -100000 ≤ sdI n z n b ∧ sdI n z n b ≤ 100000 := by
  rw [show sdI n z n b = sgn z b n from if_pos ⟨rfl, h⟩]
  have h1 := sgn_in b h.2
  have h2 := h.1
  omega

set_option maxRecDepth 100000 in
set_option maxHeartbeats 4000000 in
theorem iLeastDiff_any (n : Nat) (hn : n ≤ maxLen) (z : Nat → Int) (p : Option Addr) (c g o : Nat) (w : World) (hc : n ≤ c) (h : FlatAt w 0 w.heap.size p g o n (fun j => .int .i64 (z j))) :
    Calls Try.prog 24 #[.slice p n c] w fun e w' => e = .returned (.int .i64 (ldI n z)) ∧ Below w.heap.size w w' := by
  have hr : Rd w (.slice p n c) n n z := ⟨p, c, g, o, rfl, hc, h⟩
  have hw := Lib.hid (iWeights_any 0 n hn z p c g o w h)
  have HF := Lib.hid (show Rd w (.slice p n c) n n z from hr)
  clear h hr
  by_cases hws : wsOk 0 n z
  rotate_left
  · have HN := Lib.hid (show ldI n z = -1 from if_neg hws)
    rw [decide_eq_false hws] at hw
    clear hws
    go_enter Try.func24, Try.ntmps24
    go_wp2_with (go_at_call 61; refine hw.out.mono ?_; rintro e w2 ⟨rfl, hb⟩)
    go_ret
    exact ⟨by rw [HN.out]; first | done | rfl, hb⟩
  have HE := Lib.hid (show ldI n z = ldV n z from if_pos hws)
  have HV := Lib.hid (ldV_far hws)
  rw [decide_eq_true hws] at hw
  have HWS := Lib.hid hws.low
  have hn12 := hws.1
  have h2 := two_pow12 hn12
  clear hws
  obtain ⟨T, hT⟩ : ∃ T, T = 2 ^ n := ⟨_, rfl⟩
  rw [← hT] at HV h2
  have HT := Lib.hid hT
  have hsh : IntKind.i64.wrap (1 * 2 ^ n) = (T : Int) := by
    rw [hT, Int.one_mul, show (2 : Int) ^ n = ((2 ^ n : Nat) : Int) from by rw [Int.natCast_pow]; rfl]
    exact IntWalk.i64_in _ (by have := two_pow12 hn12; omega)
  have hsh2 : IntKind.i64.wrap (2 ^ n) = (T : Int) := by rw [← hsh, Int.one_mul]
  clear hT
  go_enter Try.func24, Try.ntmps24
  go_wp2_with (go_at_call 61; refine hw.out.mono ?_; rintro e w2 ⟨rfl, hb⟩)
  have HB2 := Lib.hid hb
  clear hb hw
  go_loopw [3, 11] (fun sv iv wr => ∃ (k : Nat), k ≤ T ∧ iv = .int .i64 (k : Int) ∧ sv = .int .i64 (mnW (amt n z) 24000 k) ∧ Hid (Below w.heap.size w wr)) (fun _ iv _ => T - (intOf iv).toNat)
  case atStart => exact ⟨0, by omega, rfl, rfl, HB2.out⟩
  case round =>
    obtain ⟨k, hk, rfl, rfl, HB⟩ := hrel
    obtain ⟨A, hA⟩ : ∃ A, A = mnW (amt n z) 24000 k := ⟨_, rfl⟩
    have HA := Lib.hid hA
    rw [← hA]
    clear hA
    by_cases hkT : k < T
    · have hk0 : (0 : Int) ≤ (k : Int) := by omega
      have hkl : (k : Int) < (T : Int) := by omega
      have hwk : IntKind.i64.wrap ((k : Int) + 1) = (k : Int) + 1 := IntWalk.i64_in _ (by omega)
      have hsd := Lib.hid (fun W (hW : Below w.heap.size w W) v (hv : RdB W v n (sdl n k)) => iSide_v n hn z (.slice p n c) n hn (sdl n k) v W (HF.out.later hW) hv)
      have hin := sdI_in HWS.out (sdl n k)
      have ham := amt_side HWS.out k
      have HAE := Lib.hid (show mnW (amt n z) 24000 (k + 1) = if amt n z k < mnW (amt n z) 24000 k then amt n z k else mnW (amt n z) 24000 k from rfl)
      rw [← HA.out] at HAE
      obtain ⟨S, hS⟩ : ∃ S, S = sdI n z n (sdl n k) := ⟨_, rfl⟩
      obtain ⟨Y, hY⟩ : ∃ Y, Y = amt n z k := ⟨_, rfl⟩
      rw [← hS] at hsd hin ham
      rw [← hY] at ham HAE
      have hamt := Lib.hid (fun W => iAmount_any S Y hin.1 hin.2 ham W)
      clear hS hY hin ham
      have hsides := Lib.hid (fun W => iSides_any n hn12 k (by omega) W)
      rcases Int.lt_trichotomy Y A with h | h | h
      · have d1 : decide (Y < A) = true := decide_eq_true h
        have d2 : decide (A < Y) = false := decide_eq_false (by omega)
        have d3 : (A == Y) = false := by simp; omega
        have HA2 := Lib.hid (HAE.out.trans (if_pos h))
        clear HAE
        go_wp2_with (first
          | (go_at_call 63; refine (hsides.out _).mono ?_; rintro e w4 ⟨v4, rfl, o4, hb4⟩; have b4 : Below w.heap.size w w4 := HB.out.trans (hb4.mono HB.out.size); have r4 := o4.rd (Nat.le_refl _))
          | (go_at_call 30; refine (hsd.out _ b4 v4 r4).mono ?_; rintro e w5 ⟨rfl, hb5⟩; have b5 : Below w.heap.size w w5 := b4.trans (hb5.mono b4.size))
          | (go_at_call 62; refine (hamt.out _).mono ?_; rintro e w6 ⟨rfl, rfl⟩))
        go_roundw
        case rel => exact ⟨k + 1, by omega, by congr 1, by rw [HA2.out], b5⟩
        case measure => simp only [intOf]; omega
      · subst h
        have HA2 := Lib.hid (HAE.out.trans (if_neg (by omega)))
        clear HAE
        go_wp2_with (first
          | (go_at_call 63; refine (hsides.out _).mono ?_; rintro e w4 ⟨v4, rfl, o4, hb4⟩; have b4 : Below w.heap.size w w4 := HB.out.trans (hb4.mono HB.out.size); have r4 := o4.rd (Nat.le_refl _))
          | (go_at_call 30; refine (hsd.out _ b4 v4 r4).mono ?_; rintro e w5 ⟨rfl, hb5⟩; have b5 : Below w.heap.size w w5 := b4.trans (hb5.mono b4.size))
          | (go_at_call 62; refine (hamt.out _).mono ?_; rintro e w6 ⟨rfl, rfl⟩))
        go_roundw
        case rel => exact ⟨k + 1, by omega, by congr 1, by rw [HA2.out], b5⟩
        case measure => simp only [intOf]; omega
      · have d1 : decide (Y < A) = false := decide_eq_false (by omega)
        have d2 : decide (A < Y) = true := decide_eq_true h
        have d3 : (A == Y) = false := by simp; omega
        have HA2 := Lib.hid (HAE.out.trans (if_neg (by omega)))
        clear HAE
        go_wp2_with (first
          | (go_at_call 63; refine (hsides.out _).mono ?_; rintro e w4 ⟨v4, rfl, o4, hb4⟩; have b4 : Below w.heap.size w w4 := HB.out.trans (hb4.mono HB.out.size); have r4 := o4.rd (Nat.le_refl _))
          | (go_at_call 30; refine (hsd.out _ b4 v4 r4).mono ?_; rintro e w5 ⟨rfl, hb5⟩; have b5 : Below w.heap.size w w5 := b4.trans (hb5.mono b4.size))
          | (go_at_call 62; refine (hamt.out _).mono ?_; rintro e w6 ⟨rfl, rfl⟩))
        go_roundw
        case rel => exact ⟨k + 1, by omega, by congr 1, by rw [HA2.out], b5⟩
        case measure => simp only [intOf]; omega
    · obtain rfl : k = T := by omega
      have HR := Lib.hid (HE.out.trans (HV.out.symm.trans HA.out.symm))
      go_wp2_with fail
      go_ret
      exact ⟨by rw [HR.out]; first | done | rfl, HB.out⟩

theorem iLeastDiff_v (n : Nat) (hn : n ≤ maxLen) (z : Nat → Int) (v : Value) (w : World) (h : Rd w v n n z) :
    Calls Try.prog 24 #[v] w fun e w' => e = .returned (.int .i64 (ldI n z)) ∧ Below w.heap.size w w' := by
  obtain ⟨p, c, g, o, rfl, hc, h⟩ := h
  exact iLeastDiff_any n hn z p c g o w hc h

end Go.Proofs.Ytnkhjlpeeljelab
