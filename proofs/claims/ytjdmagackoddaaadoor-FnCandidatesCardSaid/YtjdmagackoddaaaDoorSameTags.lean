/- The laws' comparison of two slices of tags that hold the same, and of a code's length. -/
import Derived.Test.YtjdmagackoddaaaDoorSmall
import Derived.Test.YtjdmagackoddaaaDoorChecked
import Derived.Deep.LoopGhost
import Derived.BigQuiet
import Derived.Deep.QuietTactic
import Derived.WalkSmall
import Derived.OwnWalk
namespace Go.Proofs.YtjdmagackoddaaaDoor
open Go.RowKit
set_option linter.unusedVariables false

theorem cellsTagS : Tryd.prog.cellsOf 29 = 3 := by kernel_rfl
theorem big_any (p : Option Addr) (n cap : Nat) (hn : n ≤ maxLen) (w : World) :
    Calls Tryd.prog 7 #[.slice p n cap] w fun e w' => e = .returned (.bool (decide (1048576 < n))) ∧ w = w' := by
  unfold maxLen at hn
  by_cases h : 1048576 < n
  · rw [decide_eq_true h]
    have h1 : (1048576 : Int) < (n : Int) := by omega
    go_enter Tryd.func7, Tryd.ntmps7
    go_wp2
    go_ret
    exact ⟨rfl, rfl⟩
  · rw [decide_eq_false h]
    have h1 : decide ((1048576 : Int) < (n : Int)) = false := decide_eq_false (by omega)
    go_enter Tryd.func7, Tryd.ntmps7
    go_wp2
    go_ret
    exact ⟨rfl, rfl⟩

set_option maxRecDepth 100000 in
set_option maxHeartbeats 1000000 in
theorem sameTags_any (n : Nat) (hn : n ≤ 1048576) (xs : List Int) (pa pb : Option Addr) (ca cb : Nat) (ga gb : Nat) (w : World)
    (ha : 0 < n → pa = some ⟨ga, 0, none⟩ ∧ ga < w.heap.size) (hb : 0 < n → pb = some ⟨gb, 0, none⟩ ∧ gb < w.heap.size)
    (hca : ∀ j, j < n * 3 → w.cell? ⟨ga, j, none⟩ = some (.int .i64 (xs.getD j 0))) (hcb : ∀ j, j < n * 3 → w.cell? ⟨gb, j, none⟩ = some (.int .i64 (xs.getD j 0))) :
    Calls Tryd.prog 12 #[.slice pa n ca, .slice pb n cb] w fun e w' => e = .returned (.bool true) ∧ Below w.heap.size w w' := by
  have HA := Lib.hid hca
  have HB := Lib.hid hcb
  have PA := Lib.hid ha
  have PB := Lib.hid hb
  clear hca hcb ha hb
  have c3 := cellsTagS
  go_enter Tryd.func12, Tryd.ntmps12
  go_wp2_with fail
  go_loopw [5] (fun v wr => ∃ k : Nat, k ≤ n ∧ v = .int .i64 (k : Int) ∧ Below w.heap.size w wr) (fun v _ => n - (intOf v).toNat)
  case atStart => exact ⟨0, by omega, rfl, Below.refl _ _⟩
  case round =>
    obtain ⟨k, hk, rfl, hbw⟩ := hrel
    by_cases hkn : k < n
    · obtain ⟨rfl, hga⟩ := PA.out (by omega)
      obtain ⟨rfl, hgb⟩ := PB.out (by omega)
      have a0 := (hbw.cell (p := ⟨ga, k * 3, none⟩) hga).trans (HA.out (k * 3) (by omega))
      have a1 := (hbw.cell (p := ⟨ga, k * 3 + 1, none⟩) hga).trans (HA.out (k * 3 + 1) (by omega))
      have a2 := (hbw.cell (p := ⟨ga, k * 3 + 2, none⟩) hga).trans (HA.out (k * 3 + 2) (by omega))
      have b0 := (hbw.cell (p := ⟨gb, k * 3, none⟩) hgb).trans (HB.out (k * 3) (by omega))
      have b1 := (hbw.cell (p := ⟨gb, k * 3 + 1, none⟩) hgb).trans (HB.out (k * 3 + 1) (by omega))
      have b2 := (hbw.cell (p := ⟨gb, k * 3 + 2, none⟩) hgb).trans (HB.out (k * 3 + 2) (by omega))
      obtain ⟨x0, hx0⟩ : ∃ x, x = xs.getD (k * 3) 0 := ⟨_, rfl⟩
      obtain ⟨x1, hx1⟩ : ∃ x, x = xs.getD (k * 3 + 1) 0 := ⟨_, rfl⟩
      obtain ⟨x2, hx2⟩ : ∃ x, x = xs.getD (k * 3 + 2) 0 := ⟨_, rfl⟩
      rw [← hx0] at a0 b0
      rw [← hx1] at a1 b1
      rw [← hx2] at a2 b2
      clear hx0 hx1 hx2
      have hk0 : (0 : Int) ≤ (k : Int) := by omega
      have hkl : (k : Int) < (n : Int) := by omega
      go_wp2_with fail
      go_quiet (fail)
      have hbw2 : Below w.heap.size w (wr.drewN nq) := below_drewN hbw nq
      go_wp2_with fail
      go_roundw
      case rel => exact ⟨k + 1, by omega, by congr 1, hbw2⟩
      case measure => simp only [intOf]; omega
    · obtain rfl : k = n := by omega
      go_wp2_with fail
      go_ret
      exact ⟨rfl, hbw⟩

end Go.Proofs.YtjdmagackoddaaaDoor
