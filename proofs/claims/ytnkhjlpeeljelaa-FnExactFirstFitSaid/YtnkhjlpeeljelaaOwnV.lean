/- Rows of numbers as values: what came in and is read, what a call made and may be written. -/
import Derived.Test.YtnkhjlpeeljelaaFlat
namespace Go.Proofs.Ytnkhjlpeeljelaa
open Go.RowKit

/-- v is a slice of n elements whose m cells hold the numbers z. -/
def Rd (w : World) (v : Value) (n m : Nat) (z : Nat → Int) : Prop :=
  ∃ p c g o, v = .slice p n c ∧ n ≤ c ∧ FlatAt w 0 w.heap.size p g o m (fun j => .int .i64 (z j))
/-- The same, in the blocks lo .. hi, and the cells may be written. -/
def Own (w : World) (lo hi : Nat) (v : Value) (n m : Nat) (z : Nat → Int) : Prop :=
  ∃ p c g o, v = .slice p n c ∧ n ≤ c ∧ FlatAt w lo hi p g o m (fun j => .int .i64 (z j)) ∧ FreeAt w g o m
section
variable {w w' : World} {lo hi lo' hi' n m : Nat} {v : Value} {z z' : Nat → Int}
theorem Rd.later (h : Rd w v n m z) (hb : Below w.heap.size w w') : Rd w' v n m z := by
  obtain ⟨p, c, g, o, h1, h2, h4⟩ := h
  exact ⟨p, c, g, o, h1, h2, (h4.below hb (Nat.le_refl _)).wide (Nat.le_refl _) hb.size⟩
theorem Own.rd (h : Own w lo hi v n m z) (hh : hi ≤ w.heap.size) : Rd w v n m z := by
  obtain ⟨p, c, g, o, h1, h2, h4, -⟩ := h
  exact ⟨p, c, g, o, h1, h2, h4.wide (Nat.zero_le _) hh⟩
theorem Own.below {B : Nat} (h : Own w lo hi v n m z) (hb : Below B w w') (hB : hi ≤ B) : Own w' lo hi v n m z := by
  obtain ⟨p, c, g, o, h1, h2, h4, h5⟩ := h
  exact ⟨p, c, g, o, h1, h2, h4.below hb hB, h5.below hb (fun hm => Nat.lt_of_lt_of_le (h4.1 hm).2.2 hB)⟩
theorem Own.touch {a b : Nat} (h : Own w lo hi v n m z) (t : Touch a b w w') (hs : hi ≤ w.heap.size) (hd : hi ≤ a ∨ b ≤ lo) : Own w' lo hi v n m z := by
  obtain ⟨p, c, g, o, h1, h2, h4, h5⟩ := h
  exact ⟨p, c, g, o, h1, h2, h4.touch t hs hd, h5.touch h4 t hs hd⟩
theorem Own.wide (h : Own w lo hi v n m z) (h1 : lo' ≤ lo) (h2 : hi ≤ hi') : Own w lo' hi' v n m z := by
  obtain ⟨p, c, g, o, a, b, d, e⟩ := h
  exact ⟨p, c, g, o, a, b, d.wide h1 h2, e⟩
theorem Own.congr (h : Own w lo hi v n m z) (he : ∀ j, j < m → z j = z' j) : Own w lo hi v n m z' := by
  obtain ⟨p, c, g, o, a, b, d, e⟩ := h
  exact ⟨p, c, g, o, a, b, d.congr (fun j hj => by rw [he j hj]), e⟩
/-- A row that the append's and the make's laws left. -/
theorem Own.of_own {B : Nat} {e : TypeId} {size : Nat} {xs : List Value} (h : w.ownsRow B e size v n xs) (hf : ∀ j, j < n * size → xs[j]? = some (.int .i64 (z j))) : Own w B w.heap.size v n (n * size) z := by
  have hh := h
  rcases hh.2 with ⟨rfl, rfl⟩ | ⟨g, cap, cur, rfl, h5, h6, h7, h8, h9⟩
  · exact ⟨none, 0, 0, 0, rfl, Nat.le_refl _, by rw [Nat.zero_mul]; exact FlatAt.zero _ _ _ _ _ _ _, fun j hj => absurd hj (by omega)⟩
  · obtain ⟨g', hF, hR⟩ := FlatAt.of_own (f := fun j => .int .i64 (z j)) h hf
    exact ⟨_, _, g', 0, rfl, h7, hF, hR⟩
end

end Go.Proofs.Ytnkhjlpeeljelaa
