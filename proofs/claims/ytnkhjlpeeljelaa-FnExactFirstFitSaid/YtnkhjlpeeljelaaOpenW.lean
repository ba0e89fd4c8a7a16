/- Rows of numbers that came in, read as values; the numbers are of their kind. -/
import Derived.Test.YtnkhjlpeeljelaaOpenV
namespace Go.Proofs.Ytnkhjlpeeljelaa
open Go.RowKit Go.ChangeShapes Go.WideShapes Go.Deep

theorem ints_openW {H : Type} {enc : TypeId × Value → H} {W : World} {base : Nat} {spare : Nat → Bool} {held : Bool} {p : Option Addr} {n c : Nat} {x : DataW H × List MemPlace}
    (h : ∃ fuel, DataW.trod enc Try.prog W base spare held fuel 35 (Value.slice p n c).cells.toList = some x) : ∃ z : Nat → Int, n ≤ maxLen ∧ Rd W (.slice p n c) n n z ∧ ∀ j, j < n → (Lit.int .i64 (z j)).wf = true := by
  obtain ⟨fuel, hf⟩ := h
  rcases open_ints Try.underlying35 Try.underlying3 (show Try.prog.cellsOf 3 = 1 by kernel_rfl) hf with ⟨hcs, -⟩ | ⟨a, len, cap', zs, hcs, -, hl, hm, hz, -, hcell, hwz⟩
  · simp [Value.cells] at hcs
    obtain ⟨rfl, rfl, rfl⟩ := hcs
    exact ⟨fun _ => 0, by unfold maxLen; omega, ⟨none, 0, 0, 0, rfl, Nat.le_refl _, FlatAt.zero _ _ _ _ _ _ _⟩, fun j hj => absurd hj (by omega)⟩
  · simp [Value.cells] at hcs
    obtain ⟨rfl, rfl, rfl⟩ := hcs
    have hlz : n ≤ zs.length := by rw [hz]; split <;> omega
    by_cases h0 : n = 0
    · subst h0
      exact ⟨fun _ => 0, by omega, ⟨_, _, 0, 0, rfl, hl, FlatAt.zero _ _ _ _ _ _ _⟩, fun j hj => absurd hj (by omega)⟩
    · obtain ⟨b, off, rfl, hc⟩ := ints_at hcell (by omega)
      refine ⟨fun j => zs.getD j 0, by omega, ⟨_, _, b, off, rfl, hl, fun _ => ⟨rfl, Nat.zero_le _, ?_⟩, fun j hj => hc j (by omega)⟩, fun j hj => ?_⟩
      · exact World.block_lt_of_cell? W _ (hc 0 (by omega))
      · have hj2 : j < zs.length := by omega
        show (Lit.int .i64 (zs.getD j 0)).wf = true
        rw [List.getD_eq_getElem?_getD, List.getElem?_eq_getElem hj2]
        exact hwz _ (List.getElem_mem hj2)

end Go.Proofs.Ytnkhjlpeeljelaa
