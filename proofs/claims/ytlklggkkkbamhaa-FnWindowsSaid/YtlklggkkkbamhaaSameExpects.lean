/- The laws' comparison of equal elements. -/
import Derived.Test.YtlklggkkkbamhaaWinBase
namespace Go.Proofs.Ytlklggkkkbamhaa
open Go.RowKit

set_option maxRecDepth 100000 in
set_option maxHeartbeats 1000000 in
theorem sameExpects_any (n : Nat) (hn : n ≤ 1048576) (z : Nat → Int) (pa pb : Option Addr) (ca cb ga oa gb ob : Nat) (w : World)
    (ha : FlatAt w 0 w.heap.size pa ga oa (n * 3) (fun j => .int .i64 (z j))) (hb : FlatAt w 0 w.heap.size pb gb ob (n * 3) (fun j => .int .i64 (z j))) :
    Calls Try.prog 19 #[.slice pa n ca, .slice pb n cb] w fun e w' => e = .returned (.bool true) ∧ Below w.heap.size w w' := by
  have HA := Lib.hid ha
  have HB := Lib.hid hb
  clear ha hb
  have c3 := cellsExpectW
  go_enter Try.func19, Try.ntmps19
  go_wp2_with fail
  go_loopw [5] (fun v wr => ∃ k : Nat, k ≤ n ∧ v = .int .i64 (k : Int) ∧ Below w.heap.size w wr) (fun v _ => n - (intOf v).toNat)
  case atStart => exact ⟨0, by omega, rfl, Below.refl _ _⟩
  case round =>
    obtain ⟨k, hk, rfl, hbw⟩ := hrel
    by_cases hkn : k < n
    · obtain ⟨rfl, -, hga⟩ := HA.out.1 (by omega)
      obtain ⟨rfl, -, hgb⟩ := HB.out.1 (by omega)
      obtain ⟨a0, a1, a2⟩ := HA.out.at3 hbw (Nat.le_refl _) k (by omega)
      obtain ⟨b0, b1, b2⟩ := HB.out.at3 hbw (Nat.le_refl _) k (by omega)
      obtain ⟨x0, hx0⟩ : ∃ x, x = z (k * 3) := ⟨_, rfl⟩
      obtain ⟨x1, hx1⟩ : ∃ x, x = z (k * 3 + 1) := ⟨_, rfl⟩
      obtain ⟨x2, hx2⟩ : ∃ x, x = z (k * 3 + 2) := ⟨_, rfl⟩
      rw [← hx2] at a2 b2
      rw [← hx0] at a0 b0
      rw [← hx1] at a1 b1
      clear hx0 hx1 hx2
      have hk0 : (0 : Int) ≤ (k : Int) := by omega
      have hkl : (k : Int) < (n : Int) := by omega
      go_wp2_with fail
      go_quiet (fail)
      go_wp2_with fail
      go_roundw
      case rel => exact ⟨k + 1, by omega, by congr 1, below_drewN' hbw _⟩
      case measure => simp only [intOf]; omega
    · obtain rfl : k = n := by omega
      go_wp2_with fail
      go_ret
      exact ⟨rfl, hbw⟩


theorem sameExpects_v (n : Nat) (hn : n ≤ 1048576) (z : Nat → Int) (va vb : Value) (w : World) (ha : Rd w va n (n * 3) z) (hb : Rd w vb n (n * 3) z) :
    Calls Try.prog 19 #[va, vb] w fun e w' => e = .returned (.bool true) ∧ Below w.heap.size w w' := by
  obtain ⟨pa, ca, ga, oa, rfl, -, ha⟩ := ha
  obtain ⟨pb, cb, gb, ob, rfl, -, hb⟩ := hb
  exact sameExpects_any n hn z pa pb ca cb ga oa gb ob w ha hb

end Go.Proofs.Ytlklggkkkbamhaa
