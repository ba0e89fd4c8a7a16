/- The laws' own functions over slices of truth values: readings. -/
import Derived.Test.YtnkhjlpeeljelabOwnV
import Derived.Test.YtnkhjlpeeljelabSmall
import Derived.Test.YtnkhjlpeeljelabChecked
import Derived.Deep.LoopGhost
import Derived.Deep.Grids
import Derived.BigQuiet
import Derived.Deep.QuietTactic
import Derived.Deep.RegionWith
import Derived.OwnWalk
import Derived.Laws.MakeOwn
import Derived.IntWalk
import Derived.OpenShut
namespace Go.Proofs.Ytnkhjlpeeljelab
open Go.RowKit

theorem FlatAt.bool {w : World} {lo hh : Nat} {p : Option Addr} {g o m : Nat} {z : Nat → Bool} (h : FlatAt w lo hh p g o m (fun j => .bool (z j))) (j : Nat) (hj : j < m) : w.cell? ⟨g, o + j, none⟩ = some (.bool (z j)) := h.2 j hj

/-- v is a slice of n truth values z. -/
def RdB (w : World) (v : Value) (n : Nat) (z : Nat → Bool) : Prop :=
  ∃ p c g o, v = .slice p n c ∧ n ≤ c ∧ FlatAt w 0 w.heap.size p g o n (fun j => .bool (z j))
/-- The same, in the blocks lo .. hi, and the cells may be written. -/
def OwnB (w : World) (lo hi : Nat) (v : Value) (n : Nat) (z : Nat → Bool) : Prop :=
  ∃ p c g o, v = .slice p n c ∧ n ≤ c ∧ FlatAt w lo hi p g o n (fun j => .bool (z j)) ∧ FreeAt w g o n
section
variable {w w' : World} {lo hi lo' hi' n : Nat} {v : Value} {z z' : Nat → Bool}
theorem RdB.later (h : RdB w v n z) (hb : Below w.heap.size w w') : RdB w' v n z := by
  obtain ⟨p, c, g, o, h1, h2, h4⟩ := h
  exact ⟨p, c, g, o, h1, h2, (h4.below hb (Nat.le_refl _)).wide (Nat.le_refl _) hb.size⟩
theorem OwnB.rd (h : OwnB w lo hi v n z) (hh : hi ≤ w.heap.size) : RdB w v n z := by
  obtain ⟨p, c, g, o, h1, h2, h4, -⟩ := h
  exact ⟨p, c, g, o, h1, h2, h4.wide (Nat.zero_le _) hh⟩
theorem OwnB.below {B : Nat} (h : OwnB w lo hi v n z) (hb : Below B w w') (hB : hi ≤ B) : OwnB w' lo hi v n z := by
  obtain ⟨p, c, g, o, h1, h2, h4, h5⟩ := h
  exact ⟨p, c, g, o, h1, h2, h4.below hb hB, h5.below hb (fun hm => Nat.lt_of_lt_of_le (h4.1 hm).2.2 hB)⟩
theorem OwnB.touch {a b : Nat} (h : OwnB w lo hi v n z) (t : Touch a b w w') (hs : hi ≤ w.heap.size) (hd : hi ≤ a ∨ b ≤ lo) : OwnB w' lo hi v n z := by
  obtain ⟨p, c, g, o, h1, h2, h4, h5⟩ := h
  exact ⟨p, c, g, o, h1, h2, h4.touch t hs hd, h5.touch h4 t hs hd⟩
theorem OwnB.wide (h : OwnB w lo hi v n z) (h1 : lo' ≤ lo) (h2 : hi ≤ hi') : OwnB w lo' hi' v n z := by
  obtain ⟨p, c, g, o, a, b, d, e⟩ := h
  exact ⟨p, c, g, o, a, b, d.wide h1 h2, e⟩
theorem OwnB.congr (h : OwnB w lo hi v n z) (he : ∀ j, j < n → z j = z' j) : OwnB w lo hi v n z' := by
  obtain ⟨p, c, g, o, a, b, d, e⟩ := h
  exact ⟨p, c, g, o, a, b, d.congr (fun j hj => by rw [he j hj]), e⟩
end
/-- A row of truth values that came in. -/
theorem bools_openV {H : Type} {enc : TypeId × Value → H} {W : World} {base : Nat} {held : Bool} {p : Option Addr} {n c : Nat} {x : DataW H × List MemPlace}
    (h : ∃ fuel, DataW.trod enc Try.prog W base (fun _ => true) held fuel 43 (Value.slice p n c).cells.toList = some x) : ∃ z : Nat → Bool, n ≤ maxLen ∧ RdB W (.slice p n c) n z := by
  obtain ⟨fuel, hf⟩ := h
  rcases Go.Deep.open_bools Try.underlying43 Try.underlying4 (show Try.prog.cellsOf 4 = 1 by kernel_rfl) hf with ⟨hcs, -⟩ | ⟨a, len, cap', B, hcs, -, hl, hm, -, hcell⟩
  · simp [Value.cells] at hcs
    obtain ⟨rfl, rfl, rfl⟩ := hcs
    exact ⟨fun _ => false, by unfold maxLen; omega, none, 0, 0, 0, rfl, Nat.le_refl _, FlatAt.zero _ _ _ _ _ _ _⟩
  · simp [Value.cells] at hcs
    obtain ⟨rfl, rfl, rfl⟩ := hcs
    obtain ⟨b, off, spot⟩ := a
    by_cases h0 : n = 0
    · subst h0
      exact ⟨fun _ => false, by omega, _, _, 0, 0, rfl, hl, FlatAt.zero _ _ _ _ _ _ _⟩
    · have hq0 := hcell 0 (by omega)
      have hspot : spot = none := by simpa [Addr.add] using World.cell?_spot hq0
      subst hspot
      refine ⟨B, by omega, _, _, b, off, rfl, hl, fun _ => ⟨rfl, Nat.zero_le _, ?_⟩, fun j hj => ?_⟩
      · simp [Addr.add] at hq0
        rcases Nat.lt_or_ge b W.heap.size with h2 | h2
        · exact h2
        · unfold World.cell? at hq0
          rw [Array.getElem?_eq_none (by show _ ≤ b; omega)] at hq0
          simp at hq0
      · have hq := hcell j (by omega)
        rw [Go.WideShapes.add_plain] at hq
        exact hq

theorem infoBool : (Try.prog.info? 4).map (fun i => (i.zero, i.size, i.bytes)) = some (some (.bool false), 1, 1) := by kernel_rfl

end Go.Proofs.Ytnkhjlpeeljelab
