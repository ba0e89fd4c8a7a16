/- What RoomFor returns, the program's and the model's, in values. -/
import Derived.Test.YtobcgidakbbhpabRoomI
import Derived.Test.YtobcgidakbbhpabRoomS
namespace Go.Proofs.Ytobcgidakbbhpab
open Go.RowKit

theorem iRoom_v (n : Nat) (hn : n ≤ 1048576) (z : Nat → Int) (p : Option Addr) (c : Nat) (L G : Int) (H : Bool) (m : Nat) (hm : m ≤ 1048576) (y : Nat → Int) (v : Value) (w : World) (h : Rd w (.slice p n c) n (n * 3) z) (hs : Rd w v m m y) :
    Calls Try.prog 31 #[.agg #[.int .i64 L, .int .i64 G, .bool H, .slice p n c], v] w fun e w' => e = .returned (.int .i64 (rmB L G n z m y)) ∧ Below w.heap.size w w' := by
  obtain ⟨p0, c0, g, o, e, hc, hf⟩ := h
  injection e with e1 _ e3
  subst e1; subst e3
  obtain ⟨ps, cs, gs, os, rfl, -, hfs⟩ := hs
  exact iRoom_any n hn z p c g o L G H m hm y ps cs gs os w hf hc hfs
theorem sRoom_v (n : Nat) (hn : n ≤ 1048576) (z : Nat → Int) (p : Option Addr) (c : Nat) (L G : Int) (H : Bool) (m : Nat) (hm : m ≤ 1048576) (y : Nat → Int) (v : Value) (w : World) (h : Rd w (.slice p n c) n (n * 3) z) (hs : Rd w v m m y) :
    Calls Try.prog 29 #[.agg #[.int .i64 L, .int .i64 G, .bool H, .slice p n c], v] w fun e w' => e = .returned (.int .i64 (rmB L G n z m y)) ∧ Below w.heap.size w w' := by
  obtain ⟨p0, c0, g, o, e, hc, hf⟩ := h
  injection e with e1 _ e3
  subst e1; subst e3
  obtain ⟨ps, cs, gs, os, rfl, -, hfs⟩ := hs
  exact sRoom_any n hn z p c g o L G H m hm y ps cs gs os w hf hfs

end Go.Proofs.Ytobcgidakbbhpab
