/- What the program's and the model's LimitsOk return, and the laws' own function over limits. -/
import Derived.Test.YtnkhjlpeeljelaaLoadPlain
import Derived.Test.YtnkhjlpeeljelaaFlat
namespace Go.Proofs.Ytnkhjlpeeljelaa
open Go.RowKit
set_option linter.unusedVariables false

theorem liB_and {W C : Int} {t u : Bool} (h : inB 60 2000 W = t) (k : inB 1 40 C = u) : liB W C = (t && u) := by unfold liB; rw [h, k]

set_option maxHeartbeats 1000000 in
theorem iLimitsOk_any (W C : Int) (w : World) :
    Calls Try.prog 17 #[.agg #[.int .i64 W, .int .i64 C]] w fun e w' => e = .returned (.bool (liB W C)) ∧ Below w.heap.size w w' := by
  rcases Bool.eq_false_or_eq_true (inB 60 2000 W) with b1 | b1 <;> rcases Bool.eq_false_or_eq_true (inB 1 40 C) with b2 | b2
  all_goals
    rw [liB_and b1 b2]
    go_enter Try.func17, Try.ntmps17
    go_wp2_with (first | (go_at_call 53; with_reducible refine (within_at b1 _).mono ?_; rintro e w' ⟨rfl, rfl⟩) | (go_at_call 53; with_reducible refine (within_at b2 _).mono ?_; rintro e w' ⟨rfl, rfl⟩))
    go_ret
    exact ⟨rfl, (Below.refl _ _).alloc (Nat.le_refl _) _⟩

set_option maxHeartbeats 1000000 in
theorem sLimitsOk_any (W C : Int) (w : World) :
    Calls Try.prog 15 #[.agg #[.int .i64 W, .int .i64 C]] w fun e w' => e = .returned (.bool (liB W C)) ∧ Below w.heap.size w w' := by
  rcases Bool.eq_false_or_eq_true (inB 60 2000 W) with b1 | b1 <;> rcases Bool.eq_false_or_eq_true (inB 1 40 C) with b2 | b2
  all_goals
    rw [liB_and b1 b2]
    go_enter Try.func15, Try.ntmps15
    go_wp2_with (first | (go_at_call 52; with_reducible refine (specIn_at b1 _).mono ?_; rintro e w' ⟨rfl, rfl⟩) | (go_at_call 52; with_reducible refine (specIn_at b2 _).mono ?_; rintro e w' ⟨rfl, rfl⟩))
    go_ret
    exact ⟨rfl, (Below.refl _ _).alloc (Nat.le_refl _) _⟩

theorem iLimitsOk_at {W C : Int} {t : Bool} (h : liB W C = t) (w : World) :
    Calls Try.prog 17 #[.agg #[.int .i64 W, .int .i64 C]] w fun e w' => e = .returned (.bool t) ∧ Below w.heap.size w w' := by
  rw [← h]; exact iLimitsOk_any W C w
theorem sLimitsOk_at {W C : Int} {t : Bool} (h : liB W C = t) (w : World) :
    Calls Try.prog 15 #[.agg #[.int .i64 W, .int .i64 C]] w fun e w' => e = .returned (.bool t) ∧ Below w.heap.size w w' := by
  rw [← h]; exact sLimitsOk_any W C w

set_option maxHeartbeats 1000000 in
theorem toLimits_any (W C : Int) (w : World) :
    Calls Try.prog 16 #[.agg #[.int .i64 W, .int .i64 C]] w fun e w' => e = .returned (.agg #[.int .i64 W, .int .i64 C]) ∧ Below w.heap.size w w' := by
  go_enter Try.func16, Try.ntmps16
  go_wp2
  refine bodyPost_ret (v := .agg #[.int .i64 W, .int .i64 C]) (by simp [results, Try.results16, go_sem]) rfl ⟨rfl, ?_⟩
  repeat (first | exact Below.refl _ _ | refine Below.alloc ?_ (by simp <;> omega) _ | refine Below.setCell ?_ (by simp <;> omega) _ | refine Below.drew ?_)

end Go.Proofs.Ytnkhjlpeeljelaa
