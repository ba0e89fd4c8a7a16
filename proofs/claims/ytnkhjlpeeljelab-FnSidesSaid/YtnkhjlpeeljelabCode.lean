/- A code that came in: its bytes can be read. -/
import Derived.Test.YtnkhjlpeeljelabCur0
import Derived.ProofKit
import Derived.OpenShut
namespace Go.Proofs.Ytnkhjlpeeljelab
open Go.RowKit Go.ChangeShapes Go.WideShapes

theorem cellsU8 : Try.prog.cellsOf 5 = 1 := by kernel_rfl
theorem code_open {H : Type} {enc : TypeId × Value → H} {W : World} {base : Nat} {spare : Nat → Bool} {held : Bool} {p : Option Addr} {n cap : Nat} {x : DataW H × List MemPlace}
    (h : ∃ fuel, DataW.trod enc Try.prog W base spare held fuel 22 (Value.slice p n cap).cells.toList = some x) : ∃ gc oc, n ≤ maxLen ∧ Code W.heap.size n W p gc oc := by
  obtain ⟨fuel, hf⟩ := h
  rcases open_ints Try.underlying22 Try.underlying5 cellsU8 hf with ⟨hcs, -⟩ | ⟨a, len, cap', zs, hcs, -, hl, hm, hz, -, hcell, hwz⟩
  · simp [Value.cells] at hcs
    obtain ⟨-, rfl, -⟩ := hcs
    exact ⟨0, 0, by unfold maxLen; omega, fun h => absurd h (by omega), fun j hj => absurd hj (by omega)⟩
  · simp [Value.cells] at hcs
    obtain ⟨rfl, rfl, rfl⟩ := hcs
    have hlz : n ≤ zs.length := by rw [hz]; split <;> omega
    by_cases h0 : n = 0
    · subst h0
      exact ⟨0, 0, by unfold maxLen; omega, fun h => absurd h (by omega), fun j hj => absurd hj (by omega)⟩
    · obtain ⟨b, off, rfl, hc⟩ := ints_at hcell (by omega)
      refine ⟨b, off, by omega, fun _ => ⟨rfl, ?_⟩, fun j hj => ?_⟩
      · have h1 := hc 0 (by omega)
        unfold World.cell? at h1
        by_cases hb : b < W.heap.size
        · exact hb
        · rw [Array.getElem?_eq_none (by show _ ≤ b; omega)] at h1
          simp at h1
      · have hr := range_u8 hwz j
        refine ⟨(zs.getD j 0).toNat, ?_, ?_⟩
        · rw [List.getD_eq_getElem?_getD]; omega
        · rw [hc j (by omega), List.getD_eq_getElem?_getD]
          congr 2
          omega

end Go.Proofs.Ytnkhjlpeeljelab
