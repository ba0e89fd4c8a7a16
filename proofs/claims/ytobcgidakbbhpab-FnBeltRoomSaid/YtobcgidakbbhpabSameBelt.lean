/- The laws' comparison of equal belts. -/
import Derived.Test.YtobcgidakbbhpabRowItem
namespace Go.Proofs.Ytobcgidakbbhpab
open Go.RowKit

set_option maxRecDepth 100000 in
set_option maxHeartbeats 1000000 in
theorem sameItems_any (n : Nat) (hn : n ≤ 1048576) (z : Nat → Int) (pa pb : Option Addr) (ca cb ga oa gb ob : Nat) (w : World)
    (ha : FlatAt w 0 w.heap.size pa ga oa (n * 3) (fun j => .int .i64 (z j))) (hb : FlatAt w 0 w.heap.size pb gb ob (n * 3) (fun j => .int .i64 (z j))) :
    Calls Try.prog 86 #[.slice pa n ca, .slice pb n cb] w fun e w' => e = .returned (.bool true) ∧ Below w.heap.size w w' := by
  have HA := Lib.hid ha
  have HB := Lib.hid hb
  clear ha hb
  have c3 := cellsItem
  go_enter Try.func86, Try.ntmps86
  go_wp2_with fail
  go_loopw [5] (fun v wr => ∃ k : Nat, k ≤ n ∧ v = .int .i64 (k : Int) ∧ Below w.heap.size w wr) (fun v _ => n - (intOf v).toNat)
  case atStart => exact ⟨0, by omega, rfl, Below.refl _ _⟩
  case round =>
    obtain ⟨k, hk, rfl, hbw⟩ := hrel
    by_cases hkn : k < n
    · obtain ⟨rfl, -, hga⟩ := HA.out.1 (by omega)
      obtain ⟨rfl, -, hgb⟩ := HB.out.1 (by omega)
      obtain ⟨a0, a1, a2⟩ := HA.out.at3 hbw (Nat.le_refl _) k (by omega)
      obtain ⟨b0, b1, b2⟩ := HB.out.at3 hbw (Nat.le_refl _) k (by omega)
      obtain ⟨x0, hx0⟩ : ∃ x, x = z (k * 3) := ⟨_, rfl⟩
      obtain ⟨x1, hx1⟩ : ∃ x, x = z (k * 3 + 1) := ⟨_, rfl⟩
      obtain ⟨x2, hx2⟩ : ∃ x, x = z (k * 3 + 2) := ⟨_, rfl⟩
      rw [← hx0] at a0 b0
      rw [← hx1] at a1 b1
      rw [← hx2] at a2 b2
      clear hx0 hx1 hx2
      have hk0 : (0 : Int) ≤ (k : Int) := by omega
      have hkl : (k : Int) < (n : Int) := by omega
      go_wp2_with fail
      go_quiet (fail)
      go_wp2_with fail
      go_roundw
      case rel => exact ⟨k + 1, by omega, by congr 1, below_drewN' hbw _⟩
      case measure => simp only [intOf]; omega
    · obtain rfl : k = n := by omega
      go_wp2_with fail
      go_ret
      exact ⟨rfl, hbw⟩

set_option maxRecDepth 100000 in
set_option maxHeartbeats 1000000 in
theorem sameBelt_any (n : Nat) (hn : n ≤ 1048576) (z : Nat → Int) (pa pb : Option Addr) (ca cb ga oa gb ob : Nat) (L G : Int) (H : Bool) (w : World)
    (ha : FlatAt w 0 w.heap.size pa ga oa (n * 3) (fun j => .int .i64 (z j))) (hb : FlatAt w 0 w.heap.size pb gb ob (n * 3) (fun j => .int .i64 (z j))) :
    Calls Try.prog 26 #[.agg #[.int .i64 L, .int .i64 G, .bool H, .slice pa n ca], .agg #[.int .i64 L, .int .i64 G, .bool H, .slice pb n cb]] w fun e w' => e = .returned (.bool true) ∧ Below w.heap.size w w' := by
  have hT := Lib.hid (fun W (hw : Below w.heap.size w W) => sameItems_any n hn z pa pb ca cb ga oa gb ob W ((ha.below hw (Nat.le_refl _)).wide (Nat.zero_le _) hw.size) ((hb.below hw (Nat.le_refl _)).wide (Nat.zero_le _) hw.size))
  clear ha hb
  cases H
  all_goals
    go_enter Try.func26, Try.ntmps26
    go_wp2_with fail
    refine (hT.out _ (by repeat (first | exact Below.refl _ _ | refine Below.alloc ?_ (by simp <;> omega) _ | refine Below.setCell ?_ (by simp <;> omega) _ | refine Below.drew ?_))).mono ?_
    rintro e w2 ⟨rfl, hb2⟩
    have HB2 := Lib.hid hb2
    clear hb2
    go_wp2
    go_ret
    refine ⟨rfl, below_via HB2.out ?_ ?_⟩
    · repeat (first | exact Below.refl _ _ | refine Below.alloc ?_ (by simp <;> omega) _ | refine Below.setCell ?_ (by simp <;> omega) _ | refine Below.drew ?_)
    · simp <;> omega

end Go.Proofs.Ytobcgidakbbhpab
