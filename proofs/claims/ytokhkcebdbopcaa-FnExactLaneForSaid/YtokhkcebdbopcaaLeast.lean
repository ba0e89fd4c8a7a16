/- The least time of a lane: the model's l06Least. -/
import Derived.Test.YtokhkcebdbopcaaLanePlain
import Derived.Test.YtokhkcebdbopcaaFlat
import Derived.Test.YtokhkcebdbopcaaSmall
import Derived.Test.YtokhkcebdbopcaaChecked
import Derived.Deep.LoopGhost
import Derived.IntWalk
namespace Go.Proofs.Ytokhkcebdbopcaa
open Go.RowKit
set_option linter.unusedVariables false

theorem cellsKeptM : Try.prog.cellsOf 49 = 2 := by kernel_rfl
set_option maxRecDepth 100000 in
set_option maxHeartbeats 1000000 in
theorem sLeast_any (n : Nat) (hn : n ≤ maxLen) (x : Nat → Int) (p : Option Addr) (c g o : Nat) (w : World) (h : FlatAt w 0 w.heap.size p g o (n * 2) (fun j => .int .i64 (x j))) :
    Calls Try.prog 55 #[.slice p n c] w fun e w' => e = .returned (.int .i64 (lst x n)) ∧ w' = w := by
  unfold maxLen at hn
  have H := Lib.hid h
  have ck := cellsKeptM
  clear h
  obtain ⟨R, hR⟩ : ∃ R, R = lst x n := ⟨_, rfl⟩
  rw [← hR]
  have HR := Lib.hid hR
  clear hR
  go_enter Try.func55, Try.ntmps55
  go_wp2_with fail
  go_loopw [3, 4] (fun tv v wr => ∃ (k : Nat) (u : Int), k ≤ n ∧ v = .int .i64 (k : Int) ∧ tv = .int .i64 u ∧ Hid (lst x k = u) ∧ w = wr) (fun _ v _ => n - (intOf v).toNat)
  case atStart => exact ⟨0, 100001, by omega, rfl, rfl, rfl, rfl⟩
  case round =>
    obtain ⟨k, u, hk, rfl, rfl, HU, rfl⟩ := hrel
    by_cases hkn : k < n
    · obtain ⟨rfl, -, hg⟩ := H.out.1 (by omega)
      obtain ⟨-, a0⟩ := H.out.at2 (Below.refl w.heap.size w) (Nat.le_refl _) k (by omega)
      have hk0 : (0 : Int) ≤ (k : Int) := by omega
      have hkl : (k : Int) < (n : Int) := by omega
      have hwk : IntKind.i64.wrap ((k : Int) + 1) = (k : Int) + 1 := IntWalk.i64_in _ (by omega)
      have HN := Lib.hid (show lst x (k + 1) = min u (x (k * 2 + 1)) from by rw [← HU.out]; rfl)
      obtain ⟨y, hy⟩ : ∃ y, y = x (k * 2 + 1) := ⟨_, rfl⟩
      rw [← hy] at a0 HN
      clear hy
      rcases Int.lt_trichotomy u y with h1 | h1 | h1
      · have HM := Lib.hid (HN.out.trans (show min u y = u by omega))
        have h2 : ¬ (y < u) := by omega
        have h3 : ¬ (u = y) := by omega
        go_wp2_with fail
        all_goals first
          | (go_roundw
             case rel => exact ⟨k + 1, u, by omega, by congr 1, rfl, HM.out, by first | rfl | trivial⟩
             case measure => simp only [intOf]; omega)
          | (exfalso; omega)
      · subst h1
        have HM := Lib.hid (HN.out.trans (show min u u = u by omega))
        go_wp2_with fail
        all_goals first
          | (go_roundw
             case rel => exact ⟨k + 1, u, by omega, by congr 1, rfl, HM.out, by first | rfl | trivial⟩
             case measure => simp only [intOf]; omega)
          | (exfalso; omega)
      · have HM := Lib.hid (HN.out.trans (show min u y = y by omega))
        have h2 : ¬ (u < y) := by omega
        have h3 : ¬ (u = y) := by omega
        go_wp2_with fail
        all_goals first
          | (go_roundw
             case rel => exact ⟨k + 1, y, by omega, by congr 1, rfl, HM.out, by first | rfl | trivial⟩
             case measure => simp only [intOf]; omega)
          | (exfalso; omega)
    · obtain rfl : k = n := by omega
      obtain rfl : R = u := by rw [HR.out, HU.out]
      go_wp2_with fail
      go_ret
      exact ⟨rfl, rfl⟩

end Go.Proofs.Ytokhkcebdbopcaa
