/- The laws' own functions over screens. -/
import Derived.Test.YtkdlhapbbnggoaaScreenOk
namespace Go.Proofs.Ytkdlhapbbnggoaa
open Go.RowKit

set_option maxHeartbeats 1000000 in
theorem toScreen_any (L S V : Int) (w : World) :
    Calls Try.prog 21 #[.agg #[.int .i64 L, .int .i64 S, .int .i64 V]] w fun e w' => e = .returned (.agg #[.int .i64 L, .int .i64 S, .int .i64 V]) ∧ Below w.heap.size w w' := by
  go_enter Try.func21, Try.ntmps21
  go_wp2
  refine bodyPost_ret (v := .agg #[.int .i64 L, .int .i64 S, .int .i64 V]) (by simp [results, Try.results21, go_sem]) rfl ⟨rfl, ?_⟩
  repeat (first | exact Below.refl _ _ | refine Below.alloc ?_ (by simp <;> omega) _ | refine Below.setCell ?_ (by simp <;> omega) _ | refine Below.drew ?_)

set_option maxHeartbeats 1000000 in
theorem eqScreen_any (L S V : Int) (w : World) :
    Calls Try.prog 25 #[.agg #[.int .i64 L, .int .i64 S, .int .i64 V], .agg #[.int .i64 L, .int .i64 S, .int .i64 V]] w fun e w' => e = .returned (.bool true) ∧ Below w.heap.size w w' := by
  go_enter Try.func25, Try.ntmps25
  go_wp2
  go_ret
  refine ⟨rfl, ?_⟩
  repeat (first | exact Below.refl _ _ | refine Below.alloc ?_ (by simp <;> omega) _ | refine Below.setCell ?_ (by simp <;> omega) _ | refine Below.drew ?_)

end Go.Proofs.Ytkdlhapbbnggoaa
