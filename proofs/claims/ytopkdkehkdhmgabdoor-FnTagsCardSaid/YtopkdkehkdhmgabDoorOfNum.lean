/- What l01OfNumber and tagNumbered return for a number of ten digits. -/
import Derived.Test.YtopkdkehkdhmgabDoorSmall
import Derived.Test.YtopkdkehkdhmgabDoorChecked
namespace Go.Proofs.YtopkdkehkdhmgabDoor
open Go.RowKit

theorem ofNum_any (N : Nat) (hN : N ≤ 9999999999) (a b c : Int) (ha : a = ((N / 1000000000 : Nat) : Int)) (hb : b = ((N / 1000000 % 1000 : Nat) : Int)) (hc : c = ((N % 1000000 : Nat) : Int)) (w : World) :
    Calls Tryd.prog 64 #[.int .i64 N] w fun e w' => e = .returned (.agg #[.int .i64 a, .int .i64 b, .int .i64 c]) ∧ Below w.heap.size w w' := by
  obtain rfl : a = (N : Int) / 1000000000 := by omega
  obtain rfl : b = (N : Int) / 1000000 % 1000 := by omega
  obtain rfl : c = (N : Int) % 1000000 := by omega
  clear ha hb hc
  go_enter Tryd.func64, Tryd.ntmps64
  go_wp2
  refine bodyPost_ret (v := .agg #[.int .i64 ((N : Int) / 1000000000), .int .i64 ((N : Int) / 1000000 % 1000), .int .i64 ((N : Int) % 1000000)]) (by simp [results, Tryd.results64, go_sem]) rfl ⟨rfl, ?_⟩
  repeat (first | exact Below.refl _ _ | refine Below.alloc ?_ (by simp <;> omega) _ | refine Below.setCell ?_ (by simp) _ | refine Below.drew ?_)

theorem tagNum_any (N : Nat) (hN : N ≤ 9999999999) (a b c : Int) (ha : a = ((N / 1000000000 : Nat) : Int)) (hb : b = ((N / 1000000 % 1000 : Nat) : Int)) (hc : c = ((N % 1000000 : Nat) : Int)) (w : World) :
    Calls Tryd.prog 43 #[.int .i64 N] w fun e w' => e = .returned (.agg #[.int .i64 a, .int .i64 b, .int .i64 c]) ∧ Below w.heap.size w w' := by
  obtain rfl : a = (N : Int) / 1000000000 := by omega
  obtain rfl : b = (N : Int) / 1000000 % 1000 := by omega
  obtain rfl : c = (N : Int) % 1000000 := by omega
  clear ha hb hc
  go_enter Tryd.func43, Tryd.ntmps43
  go_wp2
  refine bodyPost_ret (v := .agg #[.int .i64 ((N : Int) / 1000000000), .int .i64 ((N : Int) / 1000000 % 1000), .int .i64 ((N : Int) % 1000000)]) (by simp [results, Tryd.results43, go_sem]) rfl ⟨rfl, ?_⟩
  repeat (first | exact Below.refl _ _ | refine Below.alloc ?_ (by simp <;> omega) _ | refine Below.setCell ?_ (by simp) _ | refine Below.drew ?_)

end Go.Proofs.YtopkdkehkdhmgabDoor
