/- The tests of elements, at values. -/
import Derived.Test.YtopkdkehkdhmgaaOwnV
import Derived.Test.YtopkdkehkdhmgaaExpectOkI
import Derived.Test.YtopkdkehkdhmgaaExpectOkS
import Derived.Test.YtopkdkehkdhmgaaSightsOkI
import Derived.Test.YtopkdkehkdhmgaaSightsOkS
namespace Go.Proofs.Ytopkdkehkdhmgaa
open Go.RowKit

theorem iExpectOk_v (n : Nat) (hn : n ≤ maxLen) (z : Nat → Int) (v : Value) (w : World) (h : Rd w v n (n * 3) z) :
    Calls Try.prog 28 #[v] w fun e w' => e = .returned (.bool (exB n z)) ∧ Below w.heap.size w w' := by
  obtain ⟨p, c, g, o, rfl, h1, h2⟩ := h
  exact iExpectOk_any n hn z p c g o w h2 h1
theorem sExpectOk_v (n : Nat) (hn : n ≤ maxLen) (z : Nat → Int) (v : Value) (w : World) (h : Rd w v n (n * 3) z) :
    Calls Try.prog 15 #[v] w fun e w' => e = .returned (.bool (exB n z)) ∧ Below w.heap.size w w' := by
  obtain ⟨p, c, g, o, rfl, h1, h2⟩ := h
  exact sExpectOk_any n hn z p c g o w h2

theorem iSightsOk_v (n : Nat) (hn : n ≤ maxLen) (z : Nat → Int) (v : Value) (w : World) (h : Rd w v n (n * 2) z) :
    Calls Try.prog 32 #[v] w fun e w' => e = .returned (.bool (siB n z)) ∧ Below w.heap.size w w' := by
  obtain ⟨p, c, g, o, rfl, h1, h2⟩ := h
  exact iSightsOk_any n hn z p c g o w h2 h1
theorem sSightsOk_v (n : Nat) (hn : n ≤ maxLen) (z : Nat → Int) (v : Value) (w : World) (h : Rd w v n (n * 2) z) :
    Calls Try.prog 16 #[v] w fun e w' => e = .returned (.bool (siB n z)) ∧ Below w.heap.size w w' := by
  obtain ⟨p, c, g, o, rfl, h1, h2⟩ := h
  exact sSightsOk_any n hn z p c g o w h2

end Go.Proofs.Ytopkdkehkdhmgaa
