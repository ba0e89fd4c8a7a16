/- What the model's FormatInt returns: the decimal numeral, at every int. -/
import Derived.Test.YtjdmagackoddaaaDoorFigure
import Derived.Lib.ItoaNum
import Derived.Lib.ItoaLen
namespace Go.Proofs.YtjdmagackoddaaaDoor
open Go.RowKit

/-- What is left of a number, and the digits that stand already, make its numeral. -/
def Left (N m : Nat) (l : List UInt8) : Prop := (if m = 0 then l else Lib.decDigits m ++ l) = Lib.decDigits N

theorem left_len {N m : Nat} {l : List UInt8} (hN : N < 18446744073709551616) (h : Left N m l) : l.length ≤ 20 := by
  have h2 := Lib.nDigits_le20 N hN
  rw [← Lib.decDigits_length] at h2
  unfold Left at h
  rw [← h] at h2
  split at h2
  · exact h2
  · rw [List.length_append] at h2; omega
theorem left_step {N m : Nat} {l : List UInt8} (h : Left N m l) (hm : m ≠ 0) : Left N (m / 10) (UInt8.ofNat (48 + m % 10) :: l) := by
  unfold Left at h ⊢
  rw [if_neg hm] at h
  by_cases h9 : m < 10
  · rw [if_pos (by omega), ← h, Lib.decDigits_one h9, show m % 10 = m by omega]
    rfl
  · rw [if_neg (by omega), ← h]
    conv => rhs; rw [Lib.decDigits, dif_neg h9]
    simp
theorem left_end {N : Nat} {l : List UInt8} (h : Left N 0 l) : l = Lib.decDigits N := by simpa [Left] using h
theorem cat_one (b : UInt8) (l : List UInt8) : ((⟨#[b]⟩ : ByteArray) ++ ⟨l.toArray⟩) = ⟨(b :: l).toArray⟩ := by
  apply ByteArray.ext
  simp [ByteArray.data_append]

set_option maxHeartbeats 1000000 in
theorem sfint_pos (N : Nat) (h0 : 1 ≤ N) (h1 : N ≤ 9223372036854775807) (w : World) :
    Calls Tryd.prog 18 #[.int .i64 N] w fun e w' => e = .returned (.string ⟨(Lib.itoa (N : Int)).toArray⟩) ∧ Below w.heap.size w w' := by
  have hi : Lib.itoa (N : Int) = Lib.decDigits N := by unfold Lib.itoa; rw [if_neg (by omega), Int.toNat_natCast]
  rw [hi]
  clear hi
  have hN0 : ((N : Int) == 0) = false := beq_eq_false_iff_ne.2 (by omega)
  have hN1 : decide ((N : Int) < 0) = false := decide_eq_false (by omega)
  go_enter Tryd.func18, Tryd.ntmps18
  go_wp2
  go_loopw [0, 4, 5] (fun n s _ wr => ∃ (m : Nat) (l : List UInt8), m ≤ 9223372036854775807 ∧ n = .int .i64 m ∧ s = .string ⟨l.toArray⟩ ∧ l.length ≤ 20 ∧ Hid (Left N m l) ∧ Below w.heap.size w wr)
    (fun n _ _ _ => (intOf n).toNat)
  case atStart =>
    exact ⟨N, [], h1, rfl, rfl, by simp, by show Left N N []; simp [Left]; omega, Below.refl _ _⟩
  case round =>
    obtain ⟨m, l, hm, rfl, rfl, hl, hL, hb⟩ := hrel
    by_cases hz : m = 0
    · subst hz
      have e := left_end hL.out
      subst e
      go_wp2
      go_ret
      exact ⟨rfl, hb⟩
    · have hm1 : 1 ≤ m := by omega
      obtain ⟨bb, hbb⟩ : ∃ bb : UInt8, bb = UInt8.ofNat (48 + m % 10) := ⟨_, rfl⟩
      have hcv := conv_one Tryd.underlying22 Tryd.underlying5 Tryd.underlying9 bb (48 + (m : Int) % 10) (by rw [hbb]; simp only [UInt8.toNat_ofNat']; omega)
      have HS := Lib.hid (left_step hL.out hz)
      rw [← hbb] at HS
      have HLn := Lib.hid (left_len (by omega) HS.out)
      have hct := cat_one bb l
      clear hbb hz
      have hs := hb.size
      have hne : ((m : Int) != 0) = true := by rw [bne_iff_ne]; omega
      have hlt : decide ((m : Int) % 10 < 0) = false := decide_eq_false (by omega)
      go_wp2_with (go_at_call 41; refine (fig_low _ (by omega) (by omega) _).mono ?_; rintro e w' ⟨rfl, rfl⟩)
      go_roundw
      case rel => exact ⟨m / 10, bb :: l, by omega, by go_num, by first | rfl | rw [hct], HLn.out, HS, hb.alloc hs _⟩
      case measure => simp [intOf] <;> omega

theorem tmod_neg (m : Nat) : (-(m : Int)).tmod 10 = -((m % 10 : Nat) : Int) := by rw [Int.neg_tmod, Int.tmod_eq_emod_of_nonneg (by omega)]; omega
theorem tdiv_neg (m : Nat) : (-(m : Int)).tdiv 10 = -((m / 10 : Nat) : Int) := by rw [Int.neg_tdiv, Int.tdiv_eq_ediv_of_nonneg (by omega)]; omega

set_option maxHeartbeats 1000000 in
theorem sfint_neg (n : Int) (h0 : -9223372036854775808 ≤ n) (h1 : n ≤ -1) (w : World) :
    Calls Tryd.prog 18 #[.int .i64 n] w fun e w' => e = .returned (.string ⟨(Lib.itoa n).toArray⟩) ∧ Below w.heap.size w w' := by
  have hi : Lib.itoa n = 45 :: Lib.decDigits n.natAbs := by unfold Lib.itoa; rw [if_pos (by omega)]
  rw [hi]
  clear hi
  obtain ⟨N, hN⟩ : ∃ N, N = n.natAbs := ⟨_, rfl⟩
  rw [← hN]
  have hNb : N ≤ 9223372036854775808 := by omega
  have hN0 : (n == 0) = false := beq_eq_false_iff_ne.2 (by omega)
  have hN1 : decide (n < 0) = true := decide_eq_true (by omega)
  have HN : Hid (N = n.natAbs) := hN
  clear hN
  go_enter Tryd.func18, Tryd.ntmps18
  go_wp2
  go_loopw [0, 4, 5] (fun n s _ wr => ∃ (v : Int) (m : Nat) (l : List UInt8), -9223372036854775808 ≤ v ∧ v ≤ 0 ∧ Hid (v = -(m : Int)) ∧ n = .int .i64 v ∧ s = .string ⟨l.toArray⟩ ∧ l.length ≤ 20 ∧ Hid (Left N m l) ∧ Below w.heap.size w wr)
    (fun n _ _ _ => (-(intOf n)).toNat)
  case atStart =>
    have hN := HN.out
    exact ⟨n, N, [], h0, by omega, Lib.hid (by omega), rfl, rfl, by simp, by show Left N N []; simp [Left]; omega, Below.refl _ _⟩
  case round =>
    obtain ⟨v, m, l, hv0, hv1, hv, rfl, rfl, hl, hL, hb⟩ := hrel
    by_cases hz : v = 0
    · have e : m = 0 := by have := hv.out; omega
      subst e
      subst hz
      have e := left_end hL.out
      subst e
      have hct := cat_one 45 (Lib.decDigits N)
      go_wp2
      go_ret
      exact ⟨by first | rfl | rw [hct], hb⟩
    · have hne : (v != 0) = true := by rw [bne_iff_ne]; exact hz
      have hm0 : m ≠ 0 := by have := hv.out; omega
      have hq : v.tdiv 10 = -((m / 10 : Nat) : Int) := by rw [hv.out]; exact tdiv_neg m
      have hr : v.tmod 10 = -((m % 10 : Nat) : Int) := by rw [hv.out]; exact tmod_neg m
      obtain ⟨q, hqq⟩ : ∃ q : Int, q = -((m / 10 : Nat) : Int) := ⟨_, rfl⟩
      have hq0 : -9223372036854775808 ≤ q := by have := hv.out; omega
      have hq1 : q ≤ 0 := by omega
      have hq2 : v < q := by have := hv.out; omega
      rw [← hqq] at hq
      have HQ := Lib.hid hqq
      clear hqq
      obtain ⟨bb, hbb⟩ : ∃ bb : UInt8, bb = UInt8.ofNat (48 + m % 10) := ⟨_, rfl⟩
      have HS := Lib.hid (left_step hL.out hm0)
      rw [← hbb] at HS
      have HLn := Lib.hid (left_len (by omega) HS.out)
      have hct := cat_one bb l
      have hs := hb.size
      by_cases hr0 : m % 10 = 0
      · rw [hr0] at hr hbb
        have hcv := conv_one Tryd.underlying22 Tryd.underlying5 Tryd.underlying9 bb 48 (by rw [hbb]; rfl)
        clear hbb hm0 hz hr0
        go_wp2_with (go_at_call 41; refine (fig_low _ (by omega) (by omega) _).mono ?_; rintro e w' ⟨rfl, rfl⟩)
        go_roundw
        case rel => exact ⟨q, m / 10, bb :: l, hq0, hq1, HQ, by go_num, by first | rfl | rw [hct], HLn.out, HS, hb.alloc hs _⟩
        case measure => simp [intOf] <;> omega
      · obtain ⟨x, hx⟩ : ∃ x : Int, x = -((m % 10 : Nat) : Int) := ⟨_, rfl⟩
        have hx0 : -9 ≤ x := by omega
        have hx1 : x ≤ -1 := by omega
        rw [← hx] at hr
        have hcv := conv_one Tryd.underlying22 Tryd.underlying5 Tryd.underlying9 bb (48 + -x) (by rw [hbb]; simp only [UInt8.toNat_ofNat']; omega)
        have hlt : decide (x < 0) = true := decide_eq_true (by omega)
        clear hbb hm0 hz hr0 hx
        go_wp2_with (go_at_call 41; refine (fig_low _ (by omega) (by omega) _).mono ?_; rintro e w' ⟨rfl, rfl⟩)
        go_roundw
        case rel => exact ⟨q, m / 10, bb :: l, hq0, hq1, HQ, by go_num, by first | rfl | rw [hct], HLn.out, HS, hb.alloc hs _⟩
        case measure => simp [intOf] <;> omega

theorem sfint_any (n : Int) (h0 : -9223372036854775808 ≤ n) (h1 : n ≤ 9223372036854775807) (w : World) :
    Calls Tryd.prog 18 #[.int .i64 n] w fun e w' => e = .returned (.string ⟨(Lib.itoa n).toArray⟩) ∧ Below w.heap.size w w' := by
  rcases Int.lt_trichotomy n 0 with h | h | h
  · exact sfint_neg n h0 (by omega) w
  · subst h
    have hi : Lib.itoa 0 = [48] := by decide +kernel
    rw [hi]
    clear hi
    go_enter Tryd.func18, Tryd.ntmps18
    go_wp2
    go_ret
    exact ⟨rfl, Below.refl _ _⟩
  · obtain ⟨N, rfl⟩ := Int.eq_ofNat_of_zero_le (show 0 ≤ n by omega)
    exact sfint_pos N (by omega) (by omega) w

end Go.Proofs.YtjdmagackoddaaaDoor
