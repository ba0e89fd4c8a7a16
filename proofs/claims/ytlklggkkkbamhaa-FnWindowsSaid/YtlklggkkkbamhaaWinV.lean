/- Windows, at values. -/
import Derived.Test.YtlklggkkkbamhaaWinI
namespace Go.Proofs.Ytlklggkkkbamhaa
open Go.RowKit

theorem winN_le (L G : Int) (n : Nat) (z : Nat → Int) (place now slack : Int) (hn : n ≤ 1048576) : winN L G n z place now slack ≤ 1048576 := by
  unfold winN
  have := wCo_le z place n
  split <;> omega
theorem sWindows_v (n : Nat) (hn : n ≤ 1048576) (z : Nat → Int) (p : Option Addr) (c : Nat) (L G : Int) (H : Bool) (place now slack : Int) (w : World) (h : Rd w (.slice p n c) n (n * 3) z) :
    Calls Try.prog 18 #[.agg #[.int .i64 L, .int .i64 G, .bool H, .slice p n c], .int .i64 place, .int .i64 now, .int .i64 slack] w fun e w' => ∃ v, e = .returned (.tuple #[v, .bool (winB L G n z place now slack)]) ∧ Own w' w.heap.size w'.heap.size v (winN L G n z place now slack) (winN L G n z place now slack * 3) (winZ n z place now slack) ∧ Below w.heap.size w w' := by
  obtain ⟨p', c', g, o, he, h1, h2⟩ := h
  injection he with e1 e2 e3
  subst e1 e3
  exact sWindows_any n hn z _ _ g o L G H place now slack w h2
theorem iWindows_v (n : Nat) (hn : n ≤ 1048576) (z : Nat → Int) (p : Option Addr) (c : Nat) (L G : Int) (H : Bool) (place now slack : Int) (w : World) (h : Rd w (.slice p n c) n (n * 3) z) :
    Calls Try.prog 17 #[.agg #[.int .i64 L, .int .i64 G, .bool H, .slice p n c], .int .i64 place, .int .i64 now, .int .i64 slack] w fun e w' => ∃ v, e = .returned (.tuple #[v, .bool (winB L G n z place now slack)]) ∧ Own w' w.heap.size w'.heap.size v (winN L G n z place now slack) (winN L G n z place now slack * 3) (winZ n z place now slack) ∧ Below w.heap.size w w' := by
  obtain ⟨p', c', g, o, he, h1, h2⟩ := h
  injection he with e1 e2 e3
  subst e1 e3
  exact iWindows_any n hn z _ _ g o L G H place now slack w h2 h1

end Go.Proofs.Ytlklggkkkbamhaa
