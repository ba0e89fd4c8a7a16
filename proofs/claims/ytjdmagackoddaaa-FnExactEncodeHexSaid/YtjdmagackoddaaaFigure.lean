/- What the model's l01Figure returns: a digit's byte. -/
import Derived.Test.YtjdmagackoddaaaSmall
import Derived.Test.YtjdmagackoddaaaChecked
namespace Go.Proofs.Ytjdmagackoddaaa
open Go.RowKit

theorem fig_low (x : Int) (h0 : 0 ≤ x) (h1 : x ≤ 9) (w : World) :
    Calls Try.prog 9 #[.int .i64 x] w fun e w' => e = .returned (.int .u8 (48 + x)) ∧ w = w' := by
  go_enter Try.func9, Try.ntmps9
  go_wp2
  go_ret
  exact ⟨rfl, rfl⟩

theorem fig_high (x : Int) (h0 : 10 ≤ x) (h1 : x ≤ 15) (w : World) :
    Calls Try.prog 9 #[.int .i64 x] w fun e w' => e = .returned (.int .u8 (87 + x)) ∧ w = w' := by
  have e : (87 : Int) + x = 97 + x - 10 := by omega
  rw [e]
  clear e
  go_enter Try.func9, Try.ntmps9
  go_wp2
  go_ret
  exact ⟨rfl, rfl⟩

end Go.Proofs.Ytjdmagackoddaaa
