/- How far an item may come: the program's reach, over a belt at work. -/
import Derived.Test.YtlklggkkkbamhaaFlat
import Derived.Test.YtlklggkkkbamhaaIn
import Derived.Test.YtlklggkkkbamhaaBeltPlain
import Derived.Test.YtlklggkkkbamhaaChecked
import Derived.BigQuiet
import Derived.Deep.QuietTactic
import Derived.OwnWalk
import Derived.IntWalk
namespace Go.Proofs.Ytlklggkkkbamhaa
open Go.RowKit

theorem cellsItemI : Try.prog.cellsOf 32 = 3 := by kernel_rfl
/-- Block b is a belt at work. -/
def WB (w : World) (b : Nat) (L G : Int) (H : Bool) (v : Value) : Prop := w.heap[b]? = some (.cells #[.int .i64 L, .int .i64 G, .bool H, v] 64 (0, 0))
theorem WB.lt {w : World} {b : Nat} {L G : Int} {H : Bool} {v : Value} (h : WB w b L G H v) : b < w.heap.size := by
  exact (Array.getElem?_eq_some_iff.1 h).1
theorem WB.cells {w : World} {b : Nat} {L G : Int} {H : Bool} {v : Value} (h : WB w b L G H v) :
    w.cell? ⟨b, 0, none⟩ = some (.int .i64 L) ∧ w.cell? ⟨b, 1, none⟩ = some (.int .i64 G) ∧ w.cell? ⟨b, 2, none⟩ = some (.bool H) ∧ w.cell? ⟨b, 3, none⟩ = some v ∧ w.frozen? ⟨b, 3, none⟩ = false := by
  unfold WB at h
  exact ⟨by simp [World.cell?, h], by simp [World.cell?, h], by simp [World.cell?, h], by simp [World.cell?, h], by simp [World.frozen?, h]⟩
theorem WB.keep {w w' : World} {b : Nat} {L G : Int} {H : Bool} {v : Value} (h : WB w b L G H v) (hk : w'.heap[b]? = w.heap[b]?) : WB w' b L G H v := by
  exact hk.trans h
theorem WB.below {w w' : World} {b B : Nat} {L G : Int} {H : Bool} {v : Value} (h : WB w b L G H v) (hb : Below B w w') (hB : b < B) : WB w' b L G H v := h.keep (hb.block b hB)

set_option maxRecDepth 100000 in
set_option maxHeartbeats 1000000 in
theorem reach_any (n : Nat) (hn : n ≤ maxLen) (z : Nat → Int) (p : Option Addr) (c g o : Nat) (L G : Int) (H : Bool) (b : Nat) (w : World) (hb : WB w b L G H (.slice p n c)) (h : FlatAt w 0 w.heap.size p g o (n * 3) (fun j => .int .i64 (z j)))
    (k : Nat) (hk : k ≤ n) (hG : 0 ≤ G ∧ G ≤ 20) (hz : 0 < k → 0 ≤ z ((k - 1) * 3 + 1) ∧ z ((k - 1) * 3 + 1) ≤ 1000 ∧ 0 ≤ z ((k - 1) * 3 + 2) ∧ z ((k - 1) * 3 + 2) ≤ 1000) :
    Calls Try.prog 41 #[.pointer (some ⟨b, 0, none⟩), .int .i64 (k : Int)] w fun e w' => e = .returned (.int .i64 (lim L G z k)) ∧ Below w.heap.size w w' := by
  unfold maxLen at hn
  obtain ⟨q0, q1, q2, q3, q4⟩ := hb.cells
  have hblt := hb.lt
  have c3 := cellsItemI
  cases k with
  | zero =>
    clear h hz
    show Calls _ _ _ w fun e w' => e = .returned (.int .i64 L) ∧ _
    go_enter Try.func41, Try.ntmps41
    go_wp2
    go_ret
    exact ⟨rfl, Below.refl _ _⟩
  | succ k =>
    obtain ⟨z1, z2, z3, z4⟩ := hz (by omega)
    rw [show k + 1 - 1 = k by omega] at z1 z2 z3 z4
    obtain ⟨rfl, -, hg⟩ := h.1 (by omega)
    obtain ⟨a0, a1, a2⟩ := h.at3 (Below.refl w.heap.size w) (Nat.le_refl _) k (by omega)
    show Calls _ _ _ w fun e w' => e = .returned (.int .i64 (z (k * 3 + 1) - z (k * 3 + 2) - G)) ∧ _
    obtain ⟨x0, hx0⟩ : ∃ x, x = z (k * 3) := ⟨_, rfl⟩
    obtain ⟨x1, hx1⟩ : ∃ x, x = z (k * 3 + 1) := ⟨_, rfl⟩
    obtain ⟨x2, hx2⟩ : ∃ x, x = z (k * 3 + 2) := ⟨_, rfl⟩
    rw [← hx0] at a0
    rw [← hx1] at a1 z1 z2 ⊢
    rw [← hx2] at a2 z3 z4 ⊢
    have hs : w.heap.size ≠ b := by omega
    obtain ⟨hG0, hG1⟩ := hG
    have hk1 : ((k + 1 : Nat) : Int) - 1 = (k : Int) := by omega
    have hkn : (k : Int) < (n : Int) := by omega
    have hk0 : ¬ (((k + 1 : Nat) : Int) = 0) := by omega
    have hkb : (((k + 1 : Nat) : Int) == 0) = false := by simpa using hk0
    clear h hz hx0 hx1 hx2 hb
    go_enter Try.func41, Try.ntmps41
    go_wp2_with fail
    go_quiet (fail)
    go_wp2_with fail
    go_ret
    refine ⟨rfl, ?_⟩
    repeat (first | exact Below.refl _ _ | refine Below.alloc ?_ (by simp <;> omega) _ | refine Below.setCell ?_ (by simp <;> omega) _ | refine Below.drew ?_ | refine below_drewN' ?_ _)

end Go.Proofs.Ytlklggkkkbamhaa
