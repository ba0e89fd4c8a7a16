/- What the model's SideDifference returns. -/
import Derived.Test.YtnkhjlpeeljelabLoadPlain
import Derived.Test.YtnkhjlpeeljelabBools0
namespace Go.Proofs.Ytnkhjlpeeljelab
open Go.RowKit
set_option linter.unusedVariables false

set_option maxRecDepth 100000 in
set_option maxHeartbeats 4000000 in
theorem sSide_any (n : Nat) (hn : n ≤ maxLen) (z : Nat → Int) (p : Option Addr) (c g o : Nat) (m : Nat) (hm : m ≤ maxLen) (b : Nat → Bool) (pb : Option Addr) (cb gb ob : Nat) (w : World) (h : FlatAt w 0 w.heap.size p g o n (fun j => .int .i64 (z j))) (hbb : FlatAt w 0 w.heap.size pb gb ob m (fun j => .bool (b j))) :
    Calls Try.prog 31 #[.slice p n c, .slice pb m cb] w fun e w' => e = .returned (.int .i64 (sdI n z m b)) ∧ w = w' := by
  unfold maxLen at hn hm
  have HF := Lib.hid h
  have HG := Lib.hid hbb
  clear h hbb
  by_cases hnm : n = m
  rotate_left
  · have HN := Lib.hid (show sdI n z m b = 0 from if_neg (fun h => hnm h.1))
    have hd : ((n : Int) == (m : Int)) = false := by simp; omega
    have hd2 : ((n : Int) != (m : Int)) = true := by simp; omega
    clear hnm
    go_enter Try.func31, Try.ntmps31
    go_wp2_with fail
    go_ret
    exact ⟨by rw [HN.out]; first | done | rfl, rfl⟩
  subst hnm
  by_cases hn12 : n ≤ 12
  rotate_left
  · have HN := Lib.hid (show sdI n z n b = 0 from if_neg (fun h => hn12 h.2.1))
    have hd : decide ((12 : Int) < (n : Int)) = true := decide_eq_true (by omega)
    have hd2 : decide (12 < n) = true := decide_eq_true (by omega)
    clear hn12
    go_enter Try.func31, Try.ntmps31
    go_wp2_with fail
    go_ret
    exact ⟨by rw [HN.out]; first | done | rfl, rfl⟩
  have hd : decide ((12 : Int) < (n : Int)) = false := decide_eq_false (by omega)
  have hd2 : decide (12 < n) = false := decide_eq_false (by omega)
  go_enter Try.func31, Try.ntmps31
  go_wp2_with fail
  go_loopw [5, 6] (fun sv iv wr => ∃ (k : Nat), k ≤ n ∧ iv = .int .i64 (k : Int) ∧ sv = .int .i64 (sgn z b k) ∧ Hid (∀ j, j < k → inB (-2000) 2000 (z j) = true) ∧ w = wr) (fun _ iv _ => n - (intOf iv).toNat)
  case atStart => exact ⟨0, by omega, rfl, rfl, fun j hj => absurd hj (by omega), rfl⟩
  case round =>
    obtain ⟨k, hk, rfl, rfl, HP, rfl⟩ := hrel
    have hsr := sgn_in (n := k) b (fun i hi => inB_iff.1 (HP.out i (by omega)))
    by_cases hkn : k < n
    · obtain ⟨rfl, -, hg⟩ := HF.out.1 (by omega)
      obtain ⟨rfl, -, hgb⟩ := HG.out.1 (by omega)
      have a0 := HF.out.int k hkn
      have b0 := HG.out.bool k hkn
      have hk0 : (0 : Int) ≤ (k : Int) := by omega
      have hkl : (k : Int) < (n : Int) := by omega
      have hwk : IntKind.i64.wrap ((k : Int) + 1) = (k : Int) + 1 := IntWalk.i64_in _ (by omega)
      have HSE := Lib.hid (show sgn z b (k + 1) = if b k = true then sgn z b k + z k else sgn z b k - z k from rfl)
      have HNO := Lib.hid (fun (hh : inB (-2000) 2000 (z k) = false) => show sdI n z n b = 0 from if_neg (fun h => inB_no.1 hh (h.2.2 k hkn)))
      have HYE := Lib.hid (fun (hh : inB (-2000) 2000 (z k) = true) (j : Nat) (hj : j < k + 1) => show inB (-2000) 2000 (z j) = true from by
        by_cases e : j = k
        · subst e; exact hh
        · exact HP.out j (by omega))
      obtain ⟨s, hs⟩ : ∃ s, s = sgn z b k := ⟨_, rfl⟩
      obtain ⟨x, hx⟩ : ∃ x, x = z k := ⟨_, rfl⟩
      obtain ⟨t, ht⟩ : ∃ t, t = b k := ⟨_, rfl⟩
      rw [← hs] at hsr HSE ⊢
      rw [← hx] at a0 HSE HNO HYE
      rw [← ht] at b0 HSE
      clear hs hx ht HP
      rcases Bool.eq_false_or_eq_true (inB (-2000) 2000 x) with b1 | b1
      rotate_left
      · have HN := Lib.hid (HNO.out b1)
        have B1 := Lib.hid b1
        clear b1 HNO HYE HSE hsr b0
        go_wp2_with (go_at_call 59; with_reducible refine (specIn_at B1.out _).mono ?_; rintro e w4 ⟨rfl, rfl⟩)
        go_ret
        exact ⟨by rw [HN.out]; first | done | rfl, rfl⟩
      have hzk := inB_iff.1 b1
      have HP2 := Lib.hid (HYE.out b1)
      have B1 := Lib.hid b1
      have hw1 : IntKind.i64.wrap (s + x) = s + x := IntWalk.i64_in _ (by omega)
      have hw2 : IntKind.i64.wrap (s - x) = s - x := IntWalk.i64_in _ (by omega)
      clear b1 HNO HYE
      cases t
      · have HS2 := Lib.hid (HSE.out.trans (if_neg (by decide)))
        clear HSE hsr hzk
        go_wp2_with (go_at_call 59; with_reducible refine (specIn_at B1.out _).mono ?_; rintro e w4 ⟨rfl, rfl⟩)
        go_roundw
        case rel => exact ⟨k + 1, by omega, by congr 1, by rw [HS2.out], HP2.out, by first | rfl | trivial⟩
        case measure => simp only [intOf]; omega
      · have HS2 := Lib.hid (HSE.out.trans (if_pos rfl))
        clear HSE hsr hzk
        go_wp2_with (go_at_call 59; with_reducible refine (specIn_at B1.out _).mono ?_; rintro e w4 ⟨rfl, rfl⟩)
        go_roundw
        case rel => exact ⟨k + 1, by omega, by congr 1, by rw [HS2.out], HP2.out, by first | rfl | trivial⟩
        case measure => simp only [intOf]; omega
    · obtain rfl : k = n := by omega
      have HE := Lib.hid (show sdI k z k b = sgn z b k from if_pos ⟨rfl, hn12, fun j hj => inB_iff.1 (HP.out j hj)⟩)
      obtain ⟨s, hs⟩ : ∃ s, s = sgn z b k := ⟨_, rfl⟩
      rw [← hs] at hsr HE ⊢
      clear hs hsr HP
      go_wp2_with fail
      go_ret
      exact ⟨by rw [HE.out]; first | done | rfl, rfl⟩

theorem sSide_v (n : Nat) (hn : n ≤ maxLen) (z : Nat → Int) (v : Value) (m : Nat) (hm : m ≤ maxLen) (b : Nat → Bool) (u : Value) (w : World) (h : Rd w v n n z) (hb : RdB w u m b) :
    Calls Try.prog 31 #[v, u] w fun e w' => e = .returned (.int .i64 (sdI n z m b)) ∧ w = w' := by
  obtain ⟨p, c, g, o, rfl, -, h⟩ := h
  obtain ⟨pb, cb, gb, ob, rfl, -, hb⟩ := hb
  exact sSide_any n hn z p c g o m hm b pb cb gb ob w h hb

end Go.Proofs.Ytnkhjlpeeljelab
