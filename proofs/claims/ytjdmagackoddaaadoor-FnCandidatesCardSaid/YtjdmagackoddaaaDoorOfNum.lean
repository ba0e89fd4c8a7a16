/- What l01OfNumber and tagNumbered return for a number of ten digits. -/
import Derived.Test.YtjdmagackoddaaaDoorSmall
import Derived.Test.YtjdmagackoddaaaDoorChecked
namespace Go.Proofs.YtjdmagackoddaaaDoor
open Go.RowKit

theorem ofNum_any (N : Nat) (hN : N ≤ 9999999999) (a b c : Int) (ha : a = ((N / 1000000000 : Nat) : Int)) (hb : b = ((N / 1000000 % 1000 : Nat) : Int)) (hc : c = ((N % 1000000 : Nat) : Int)) (w : World) :
    Calls Tryd.prog 27 #[.int .i64 N] w fun e w' => e = .returned (.agg #[.int .i64 a, .int .i64 b, .int .i64 c]) ∧ Below w.heap.size w w' := by
  obtain rfl : a = (N : Int) / 1000000000 := by omega
  obtain rfl : b = (N : Int) / 1000000 % 1000 := by omega
  obtain rfl : c = (N : Int) % 1000000 := by omega
  clear ha hb hc
  go_enter Tryd.func27, Tryd.ntmps27
  go_wp2
  refine bodyPost_ret (v := .agg #[.int .i64 ((N : Int) / 1000000000), .int .i64 ((N : Int) / 1000000 % 1000), .int .i64 ((N : Int) % 1000000)]) (by simp [results, Tryd.results27, go_sem]) rfl ⟨rfl, ?_⟩
  repeat (first | exact Below.refl _ _ | refine Below.alloc ?_ (by simp <;> omega) _ | refine Below.setCell ?_ (by simp) _ | refine Below.drew ?_)

theorem tagNum_any (N : Nat) (hN : N ≤ 9999999999) (a b c : Int) (ha : a = ((N / 1000000000 : Nat) : Int)) (hb : b = ((N / 1000000 % 1000 : Nat) : Int)) (hc : c = ((N % 1000000 : Nat) : Int)) (w : World) :
    Calls Tryd.prog 50 #[.int .i64 N] w fun e w' => e = .returned (.agg #[.int .i64 a, .int .i64 b, .int .i64 c]) ∧ Below w.heap.size w w' := by
  obtain rfl : a = (N : Int) / 1000000000 := by omega
  obtain rfl : b = (N : Int) / 1000000 % 1000 := by omega
  obtain rfl : c = (N : Int) % 1000000 := by omega
  clear ha hb hc
  go_enter Tryd.func50, Tryd.ntmps50
  go_wp2
  refine bodyPost_ret (v := .agg #[.int .i64 ((N : Int) / 1000000000), .int .i64 ((N : Int) / 1000000 % 1000), .int .i64 ((N : Int) % 1000000)]) (by simp [results, Tryd.results50, go_sem]) rfl ⟨rfl, ?_⟩
  repeat (first | exact Below.refl _ _ | refine Below.alloc ?_ (by simp <;> omega) _ | refine Below.setCell ?_ (by simp) _ | refine Below.drew ?_)

end Go.Proofs.YtjdmagackoddaaaDoor
