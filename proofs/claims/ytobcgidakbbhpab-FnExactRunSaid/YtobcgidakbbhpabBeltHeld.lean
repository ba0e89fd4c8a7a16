/- The laws' own count of the marks of a belt. -/
import Derived.Test.YtobcgidakbbhpabRowItemHeld
import Derived.Test.YtobcgidakbbhpabBeltLaw
import Derived.Test.YtobcgidakbbhpabOwnV
namespace Go.Proofs.Ytobcgidakbbhpab
open Go.RowKit

set_option maxRecDepth 100000 in
theorem heldBelt_any (k0 n : Nat) (hn : n ≤ 1048576) (hk9 : k0 ≤ 1099511627776) (p : Option Addr) (c g o : Nat) (L G : Int) (H : Bool) (w : World) (h : FlatAt w 0 w.heap.size p g o (n * 3) (fun j => .int .i64 ((k0 + j : Nat) : Int))) :
    Calls Try.prog 23 #[.agg #[.int .i64 L, .int .i64 G, .bool H, .slice p n c], .int .i64 (k0 : Int)] w fun e w' => e = .returned (.int .i64 ((k0 + n * 3 : Nat) : Int)) ∧ Below w.heap.size w w' := by
  have hT := Lib.hid (fun W (hw : Below w.heap.size w W) => heldItemS_any k0 n hn hk9 p c g o W ((h.below hw (Nat.le_refl _)).wide (Nat.zero_le _) hw.size))
  obtain ⟨m, hm⟩ : ∃ m : Nat, m = k0 + n * 3 := ⟨_, rfl⟩
  rw [← hm]
  have hm9 : m ≤ 4398046511104 := by omega
  have HM := Lib.hid hm
  clear h hm
  go_enter Try.func23, Try.ntmps23
  go_wp2_with fail
  refine (hT.out _ (by repeat (first | exact Below.refl _ _ | refine Below.alloc ?_ (by simp <;> omega) _ | refine Below.setCell ?_ (by simp <;> omega) _ | refine Below.drew ?_))).mono ?_
  rw [← HM.out]
  rintro e w2 ⟨rfl, hb2⟩
  have HB2 := Lib.hid hb2
  clear hb2
  go_wp2
  go_ret
  refine ⟨rfl, below_via HB2.out ?_ ?_⟩
  · repeat (first | exact Below.refl _ _ | refine Below.alloc ?_ (by simp <;> omega) _ | refine Below.setCell ?_ (by simp <;> omega) _ | refine Below.drew ?_)
  · simp <;> omega

theorem heldBelt_v (k0 n : Nat) (hn : n ≤ 1048576) (hk9 : k0 ≤ 1099511627776) (v : Value) (L G : Int) (H : Bool) (w : World) (h : Rd w v n (n * 3) (fun j => ((k0 + j : Nat) : Int))) :
    Calls Try.prog 23 #[.agg #[.int .i64 L, .int .i64 G, .bool H, v], .int .i64 (k0 : Int)] w fun e w' => e = .returned (.int .i64 ((k0 + n * 3 : Nat) : Int)) ∧ Below w.heap.size w w' := by
  obtain ⟨p, c, g, o, rfl, -, h⟩ := h
  exact heldBelt_any k0 n hn hk9 p c g o L G H w h

end Go.Proofs.Ytobcgidakbbhpab
