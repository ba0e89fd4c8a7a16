/- Rows of structs of numbers and, last, a slice of numbers: what a call made. -/
import Derived.Test.YtnkhjlpeeljelaaOpenN
namespace Go.Proofs.Ytnkhjlpeeljelaa
open Go.RowKit
set_option linter.unusedVariables false

/-- How many numbers the slices of the first n structs hold. -/
def totN (nn : Nat → Nat) : Nat → Nat
  | 0 => 0
  | n + 1 => totN nn n + nn n
theorem totN_le {nn : Nat → Nat} {n m : Nat} (h : n ≤ m) : totN nn n ≤ totN nn m := by
  induction m with
  | zero => obtain rfl : n = 0 := by omega
            exact Nat.le_refl _
  | succ m ih =>
    by_cases e : n = m + 1
    · subst e; exact Nat.le_refl _
    · have := ih (by omega)
      show _ ≤ totN nn m + nn m
      omega
theorem totN_one {nn : Nat → Nat} {i n : Nat} (h : i < n) : nn i ≤ totN nn n := by
  have := totN_le (nn := nn) (show i + 1 ≤ n from h)
  have e : totN nn (i + 1) = totN nn i + nn i := rfl
  omega
/-- The cells of such a row. -/
def ncell (K : Nat) (a : Nat → Int) (s : Nat → Value) (j : Nat) : Value := if j % (K + 1) = K then s (j / (K + 1)) else .int .i64 (a j)
/-- None of the slices is nil. -/
def NRs (w : World) (v : Value) (n K : Nat) (a : Nat → Int) (nn : Nat → Nat) (xx : Nat → Nat → Int) : Prop :=
  ∃ (p : Option Addr) (c g o : Nat) (s : Nat → Value), v = .slice p n c ∧ n ≤ c ∧ FlatAt w 0 w.heap.size p g o (n * (K + 1)) (ncell K a s) ∧ ∀ i, i < n → Rd w (s i) (nn i) (nn i) (xx i) ∧ ∃ a c, s i = .slice (some a) (nn i) c
theorem NRs.rd {w : World} {v : Value} {n K : Nat} {a : Nat → Int} {nn : Nat → Nat} {xx : Nat → Nat → Int} (h : NRs w v n K a nn xx) : NRd w v n K a nn xx := by
  obtain ⟨p, c, g, o, s, h1, h2, h3, h4⟩ := h
  exact ⟨p, c, g, o, s, h1, h2, h3, fun i hi => (h4 i hi).1⟩
theorem NRs.later {w w' : World} {v : Value} {n K : Nat} {a : Nat → Int} {nn : Nat → Nat} {xx : Nat → Nat → Int} (h : NRs w v n K a nn xx) (hb : Below w.heap.size w w') : NRs w' v n K a nn xx := by
  obtain ⟨p, c, g, o, s, h1, h2, h3, h4⟩ := h
  exact ⟨p, c, g, o, s, h1, h2, (h3.below hb (Nat.le_refl _)).wide (Nat.le_refl _) hb.size, fun i hi => ⟨(h4 i hi).1.later hb, (h4 i hi).2⟩⟩
/-- The row lies in the blocks lo .. hi, its cells may be written, and no two of the slices share a block. -/
def NOwn (w : World) (lo hi : Nat) (v : Value) (n K : Nat) (a : Nat → Int) (nn : Nat → Nat) (xx : Nat → Nat → Int) : Prop :=
  ∃ (p : Option Addr) (c g o : Nat) (s : Nat → Value) (gg : Nat → Nat), v = .slice p n c ∧ n ≤ c ∧ FlatAt w lo hi p g o (n * (K + 1)) (ncell K a s) ∧ FreeAt w g o (n * (K + 1)) ∧
    (∀ i, i < n → Own w (gg i) (gg i + 1) (s i) (nn i) (nn i) (xx i) ∧ (0 < nn i → lo ≤ gg i ∧ gg i < hi ∧ gg i ≠ g) ∧ ∃ a c, s i = .slice (some a) (nn i) c) ∧ (∀ i j, i < j → j < n → 0 < nn i → 0 < nn j → gg i ≠ gg j)
theorem Own.lone {w : World} {lo hi : Nat} {v : Value} {n m : Nat} {z : Nat → Int} (h : Own w lo hi v n m z) : ∃ g, Own w g (g + 1) v n m z ∧ (0 < m → lo ≤ g ∧ g < hi) := by
  obtain ⟨p, c, g, o, h1, h2, h3, h4⟩ := h
  refine ⟨g, ⟨p, c, g, o, h1, h2, ⟨fun hm => ⟨(h3.1 hm).1, Nat.le_refl _, Nat.lt_succ_self _⟩, h3.2⟩, h4⟩, fun hm => (h3.1 hm).2⟩
theorem Own.part {w w' : World} {g : Nat} {v : Value} {n m : Nat} {z : Nat → Int} (h : Own w g (g + 1) v n m z) (hk : 0 < m → w'.heap[g]? = w.heap[g]?) : Own w' g (g + 1) v n m z := by
  obtain ⟨p, c, b, o, h1, h2, h3, h4⟩ := h
  refine ⟨p, c, b, o, h1, h2, ⟨h3.1, fun j hj => ?_⟩, fun j hj => ?_⟩
  · obtain ⟨-, h5, h6⟩ := h3.1 (by omega)
    obtain rfl : b = g := by omega
    exact (World.cell?_of_block (a := ⟨b, o + j, none⟩) (hk (by omega))).trans (h3.2 j hj)
  · obtain ⟨-, h5, h6⟩ := h3.1 (by omega)
    obtain rfl : b = g := by omega
    exact (World.frozen?_of_block (a := ⟨b, o + j, none⟩) (hk (by omega))).trans (h4 j hj)
theorem NOwn.rds {w : World} {lo hi : Nat} {v : Value} {n K : Nat} {a : Nat → Int} {nn : Nat → Nat} {xx : Nat → Nat → Int} (h : NOwn w lo hi v n K a nn xx) (hh : hi ≤ w.heap.size) : NRs w v n K a nn xx := by
  obtain ⟨p, c, g, o, s, gg, h1, h2, h3, h4, h5, h6⟩ := h
  refine ⟨p, c, g, o, s, h1, h2, h3.wide (Nat.zero_le _) hh, fun i hi => ⟨?_, (h5 i hi).2.2⟩⟩
  obtain ⟨p', c', g', o', a1, a2, a3, -⟩ := (h5 i hi).1
  refine ⟨p', c', g', o', a1, a2, ⟨fun hm => ⟨(a3.1 hm).1, Nat.zero_le _, ?_⟩, a3.2⟩⟩
  have := (h5 i hi).2.1 (by omega)
  have := a3.1 hm
  omega
theorem NOwn.rd {w : World} {lo hi : Nat} {v : Value} {n K : Nat} {a : Nat → Int} {nn : Nat → Nat} {xx : Nat → Nat → Int} (h : NOwn w lo hi v n K a nn xx) (hh : hi ≤ w.heap.size) : NRd w v n K a nn xx := (h.rds hh).rd
theorem NOwn.wide {w : World} {lo hi lo' hi' : Nat} {v : Value} {n K : Nat} {a : Nat → Int} {nn : Nat → Nat} {xx : Nat → Nat → Int} (h : NOwn w lo hi v n K a nn xx) (h1 : lo' ≤ lo) (h2 : hi ≤ hi') : NOwn w lo' hi' v n K a nn xx := by
  obtain ⟨p, c, g, o, s, gg, a1, a2, a3, a4, a5, a6⟩ := h
  exact ⟨p, c, g, o, s, gg, a1, a2, a3.wide h1 h2, a4, fun i hi => ⟨(a5 i hi).1, fun hm => by have := (a5 i hi).2.1 hm; exact ⟨by omega, by omega, this.2.2⟩, (a5 i hi).2.2⟩, a6⟩
theorem NOwn.keep {w w' : World} {lo hi : Nat} {v : Value} {n K : Nat} {a : Nat → Int} {nn : Nat → Nat} {xx : Nat → Nat → Int} (h : NOwn w lo hi v n K a nn xx) (hk : ∀ k, lo ≤ k → k < hi → w'.heap[k]? = w.heap[k]?) : NOwn w' lo hi v n K a nn xx := by
  obtain ⟨p, c, g, o, s, gg, a1, a2, a3, a4, a5, a6⟩ := h
  refine ⟨p, c, g, o, s, gg, a1, a2, a3.keep hk, fun j hj => ?_, fun i hi => ⟨(a5 i hi).1.part (fun hm => ?_), (a5 i hi).2⟩, a6⟩
  · exact (World.frozen?_of_block (a := ⟨g, o + j, none⟩) (hk g (a3.1 (by omega)).2.1 (a3.1 (by omega)).2.2)).trans (a4 j hj)
  · have := (a5 i hi).2.1 (by omega)
    exact hk _ this.1 this.2.1
theorem NOwn.below {w w' : World} {B lo hi : Nat} {v : Value} {n K : Nat} {a : Nat → Int} {nn : Nat → Nat} {xx : Nat → Nat → Int} (h : NOwn w lo hi v n K a nn xx) (hb : Below B w w') (hB : hi ≤ B) : NOwn w' lo hi v n K a nn xx := h.keep fun k _ hk => hb.block k (by omega)

end Go.Proofs.Ytnkhjlpeeljelaa
