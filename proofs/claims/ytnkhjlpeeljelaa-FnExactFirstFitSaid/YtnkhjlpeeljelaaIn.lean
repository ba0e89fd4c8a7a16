/- The two range tests, the program's and the model's. -/
import Derived.WalkKit
import Derived.ProofKit
import Derived.Below
import Derived.Test.YtnkhjlpeeljelaaChecked
import Derived.Test.YtnkhjlpeeljelaaSmall
namespace Go.Proofs.Ytnkhjlpeeljelaa
open Go.RowKit

def inB (lo hi x : Int) : Bool := decide (lo ≤ x) && decide (x ≤ hi)
theorem inB_yes {lo hi x : Int} (h : lo ≤ x) (k : x ≤ hi) : inB lo hi x = true := by simp [inB, h, k]
theorem inB_low {lo hi x : Int} (h : x < lo) : inB lo hi x = false := by simp [inB]; omega
theorem inB_high {lo hi x : Int} (h : hi < x) : inB lo hi x = false := by simp [inB]; omega
theorem inB_iff {lo hi x : Int} : inB lo hi x = true ↔ lo ≤ x ∧ x ≤ hi := by simp [inB]
theorem inB_no {lo hi x : Int} : inB lo hi x = false ↔ ¬ (lo ≤ x ∧ x ≤ hi) := by rw [← inB_iff]; simp

theorem specIn_any (lo hi x : Int) (w : World) :
    Calls Try.prog 52 #[.int .i64 x, .int .i64 lo, .int .i64 hi] w fun e w' => e = .returned (.bool (inB lo hi x)) ∧ w = w' := by
  by_cases h : lo ≤ x
  · by_cases k : x ≤ hi
    · rw [inB_yes h k]
      go_enter Try.func52, Try.ntmps52
      go_wp2
      go_ret
      exact ⟨rfl, rfl⟩
    · rw [inB_high (by omega)]
      go_enter Try.func52, Try.ntmps52
      go_wp2
      go_ret
      exact ⟨rfl, rfl⟩
  · rw [inB_low (by omega)]
    go_enter Try.func52, Try.ntmps52
    go_wp2
    go_ret
    exact ⟨rfl, rfl⟩

theorem within_any (lo hi x : Int) (w : World) :
    Calls Try.prog 53 #[.int .i64 x, .int .i64 lo, .int .i64 hi] w fun e w' => e = .returned (.bool (inB lo hi x)) ∧ w = w' := by
  by_cases h : lo ≤ x
  · by_cases k : x ≤ hi
    · rw [inB_yes h k]
      go_enter Try.func53, Try.ntmps53
      go_wp2
      go_ret
      exact ⟨rfl, rfl⟩
    · rw [inB_high (by omega)]
      go_enter Try.func53, Try.ntmps53
      go_wp2
      go_ret
      exact ⟨rfl, rfl⟩
  · rw [inB_low (by omega)]
    go_enter Try.func53, Try.ntmps53
    go_wp2
    go_ret
    exact ⟨rfl, rfl⟩

theorem within_eq {lo hi x : Int} {t : Bool} (h : inB lo hi x = t) (w : World) :
    Calls Try.prog 53 #[.int .i64 x, .int .i64 lo, .int .i64 hi] w fun e w' => e = .returned (.bool t) ∧ w' = w := (within_any lo hi x w).mono fun _ _ ⟨a, b⟩ => ⟨by rw [a, h], b.symm⟩
theorem specIn_eq {lo hi x : Int} {t : Bool} (h : inB lo hi x = t) (w : World) :
    Calls Try.prog 52 #[.int .i64 x, .int .i64 lo, .int .i64 hi] w fun e w' => e = .returned (.bool t) ∧ w' = w := (specIn_any lo hi x w).mono fun _ _ ⟨a, b⟩ => ⟨by rw [a, h], b.symm⟩

theorem within_at {lo hi x : Int} {t : Bool} (h : inB lo hi x = t) (w : World) :
    Calls Try.prog 53 #[.int .i64 x, .int .i64 lo, .int .i64 hi] w fun e w' => e = .returned (.bool t) ∧ w = w' := (within_any lo hi x w).mono fun _ _ ⟨a, b⟩ => ⟨by rw [a, h], b⟩
theorem specIn_at {lo hi x : Int} {t : Bool} (h : inB lo hi x = t) (w : World) :
    Calls Try.prog 52 #[.int .i64 x, .int .i64 lo, .int .i64 hi] w fun e w' => e = .returned (.bool t) ∧ w = w' := (specIn_any lo hi x w).mono fun _ _ ⟨a, b⟩ => ⟨by rw [a, h], b⟩

end Go.Proofs.Ytnkhjlpeeljelaa
