/- What a verdict stands for at a level: the function values, and what they return. -/
import Derived.Test.YtkdlhapbbnggoabElapse0
namespace Go.Proofs.Ytkdlhapbbnggoab
open Go.RowKit
set_option linter.unusedVariables false

/-- The function value of a decision: n nothing, o 'goes on', e ends with the number in block k. -/
def fnOn : Value := .func (.func 96) #[] #[]
def fnEnd (k : Nat) : Value := .func (.func 129) #[] #[.pointer (some ⟨k, 0, none⟩)]

theorem endsWith_any (V : Int) (w : World) :
    Calls Try.prog 119 #[.int .i64 V] w fun e w' => e = .returned (.func (.func 129) #[] #[.pointer (some ⟨w.heap.size, 0, none⟩)]) ∧ w' = w.alloc (.cells #[.int .i64 V] 3) := by
  go_enter Try.func119, Try.ntmps119
  go_wp2
  go_ret
  exact ⟨rfl, rfl⟩
theorem ends1_any (L S V D now : Int) (k : Nat) (w : World) (hk : w.cell? ⟨k, 0, none⟩ = some (.int .i64 D)) (hlt : k < w.heap.size) :
    Calls Try.prog 129 #[.agg #[.int .i64 L, .int .i64 S, .int .i64 V], .int .i64 now, .pointer (some ⟨k, 0, none⟩)] w fun e w' => e = .returned (.agg #[.int .i64 L, .int .i64 S, .int .i64 D]) ∧ Below w.heap.size w w' := by
  go_enter Try.func129, Try.ntmps129
  go_wp2
  refine bodyPost_ret (v := .agg #[.int .i64 L, .int .i64 S, .int .i64 D]) (by simp [results, Try.results129, go_sem]) rfl ⟨rfl, ?_⟩
  repeat (first | exact Below.refl _ _ | refine Below.alloc ?_ (by simp <;> omega) _ | refine Below.setCell ?_ (by simp <;> omega) _ | refine Below.drew ?_)

set_option maxHeartbeats 1000000 in
theorem decAt_clear (L : Int) (w : World) :
    Calls Try.prog 102 #[.int .i64 L, .int .i64 1] w fun e w' => e = .returned (.func (.func 129) #[] #[.pointer (some ⟨w.heap.size, 0, none⟩)]) ∧ w' = w.alloc (.cells #[.int .i64 1] 3) := by
  go_enter Try.func102, Try.ntmps102
  go_wp2_with (go_at_call 119; refine (endsWith_any _ _).mono ?_; rintro e w' ⟨rfl, rfl⟩)
  go_ret
  exact ⟨rfl, rfl⟩
set_option maxHeartbeats 1000000 in
theorem decAt_alarm (w : World) :
    Calls Try.prog 102 #[.int .i64 4, .int .i64 2] w fun e w' => e = .returned (.func (.func 129) #[] #[.pointer (some ⟨w.heap.size, 0, none⟩)]) ∧ w' = w.alloc (.cells #[.int .i64 2] 3) := by
  go_enter Try.func102, Try.ntmps102
  go_wp2_with (go_at_call 119; refine (endsWith_any _ _).mono ?_; rintro e w' ⟨rfl, rfl⟩)
  go_ret
  exact ⟨rfl, rfl⟩
set_option maxHeartbeats 1000000 in
theorem decAt_on (L D : Int) (hD : D = 0 ∨ D = 2) (hL : L < 4) (w : World) :
    Calls Try.prog 102 #[.int .i64 L, .int .i64 D] w fun e w' => e = .returned (.func (.func 96) #[] #[]) ∧ w' = w := by
  have h4 : (L == 4) = false := by simpa using (show ¬ L = 4 by omega)
  rcases hD with rfl | rfl <;>
  · go_enter Try.func102, Try.ntmps102
    go_wp2_with fail
    go_ret
    exact ⟨rfl, rfl⟩
set_option maxHeartbeats 1000000 in
theorem decAt_open (w : World) :
    Calls Try.prog 102 #[.int .i64 4, .int .i64 0] w fun e w' => e = .returned .nilFunc ∧ w' = w := by
  go_enter Try.func102, Try.ntmps102
  go_wp2_with fail
  go_ret
  exact ⟨rfl, rfl⟩
set_option maxHeartbeats 1000000 in
theorem decAt_none (L D : Int) (hD : ¬ (0 ≤ D ∧ D ≤ 2)) (w : World) :
    Calls Try.prog 102 #[.int .i64 L, .int .i64 D] w fun e w' => e = .returned .nilFunc ∧ w' = w := by
  have h0 : (D == 0) = false := by simpa using (show ¬ D = 0 by omega)
  have h1 : (D == 1) = false := by simpa using (show ¬ D = 1 by omega)
  have h2 : (D == 2) = false := by simpa using (show ¬ D = 2 by omega)
  go_enter Try.func102, Try.ntmps102
  go_wp2_with fail
  go_ret
  exact ⟨rfl, rfl⟩

theorem nil_eq_nil (W : World) : (binOp BinOp.eql 121 .nilFunc .nilFunc).run Try.prog W = .ok (.bool true) W := by kernel_rfl
theorem on_eq_nil (W : World) : (binOp BinOp.eql 121 (.func (.func 96) #[] #[]) .nilFunc).run Try.prog W = .ok (.bool false) W := by kernel_rfl
theorem end_eq_nil (W : World) (k : Nat) : (binOp BinOp.eql 121 (.func (.func 129) #[] #[.pointer (some ⟨k, 0, none⟩)]) .nilFunc).run Try.prog W = .ok (.bool false) W := by kernel_rfl

end Go.Proofs.Ytkdlhapbbnggoab
