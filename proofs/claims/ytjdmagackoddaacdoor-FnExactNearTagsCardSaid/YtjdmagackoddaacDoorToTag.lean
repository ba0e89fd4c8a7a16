/- What the laws' own toTag returns, and what a call that makes only new memory leaves of the cells that were there. -/
import Derived.WalkKit
import Derived.ProofKit
import Derived.Below
import Derived.Test.YtjdmagackoddaacDoorChecked
import Derived.Test.YtjdmagackoddaacDoorSmall
namespace Go.Proofs.YtjdmagackoddaacDoor
open Go.RowKit

theorem toTag_any (b0 b1 b2 : Int) (w : World) :
    Calls Tryd.prog 18 #[.agg #[.int .i64 b0, .int .i64 b1, .int .i64 b2]] w fun e w' => e = .returned (.agg #[.int .i64 b0, .int .i64 b1, .int .i64 b2]) ∧ Below w.heap.size w w' := by
  go_enter Tryd.func18, Tryd.ntmps18
  go_wp2
  refine bodyPost_ret (v := .agg #[.int .i64 b0, .int .i64 b1, .int .i64 b2]) (by simp [results, Tryd.results18, go_sem]) rfl ⟨rfl, ?_⟩
  repeat (first | exact Below.refl _ _ | refine Below.alloc ?_ (by simp <;> omega) _ | refine Below.setCell ?_ (by simp <;> omega) _ | refine Below.drew ?_)

end Go.Proofs.YtjdmagackoddaacDoor
