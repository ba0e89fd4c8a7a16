/- What the program's FormatInt returns, where strconv's table of powers of ten reads as its text lays it. -/
import Derived.Test.YtopkdkehkdhmgabDoorSmall
import Derived.Test.YtopkdkehkdhmgabDoorShelf
import Derived.Lib.AppendIntMem
namespace Go.Proofs.YtopkdkehkdhmgabDoor
open Go.RowKit

theorem fint_any (n : Int) (h0 : -9223372036854775808 ≤ n) (h1 : n ≤ 9223372036854775807) (w : World) (htab : Lib.TabIs Tryd.prog w "internal/strconv.uint64pow10" .u64 Lib.pow10Tab) :
    Calls Tryd.prog 10 #[.int .i64 n] w fun e w' => e = .returned (.string ⟨(Lib.itoa n).toArray⟩) ∧ Below w.heap.size w w' := by
  have hc := Tryd.strconv_Itoa n h0 h1 w htab
  have HC := Lib.hid hc
  clear hc htab
  go_enter Tryd.func10, Tryd.ntmps10
  go_wp2_with (go_at_call 34; refine HC.out.mono ?_; rintro e w' ⟨rfl, k, os, rfl⟩)
  go_ret
  exact ⟨rfl, Lib.below_grow _ _ (Nat.le_refl _) _ _⟩

end Go.Proofs.YtopkdkehkdhmgabDoor
