/- The openings of a store's lanes in plain words. -/
import Derived.Test.YtokhkcebdbopcaaFirstOpen
namespace Go.Proofs.Ytokhkcebdbopcaa
set_option linter.unusedVariables false

def opK (m : Nat) (l t : Int) : Int := if m = 0 then 1 else if t ≤ l then 0 else 2
def opC (m : Nat) (l t : Int) : Int := if m = 0 then 0 else if t ≤ l then l else -l
def oOne (nn : Nat → Nat) (xx : Nat → Nat → Int) (t : Int) (i : Nat) : List Int := [(i : Int), opK (nn i) (lst (xx i) (nn i)) t, opC (nn i) (lst (xx i) (nn i)) t]
def oTo (D : Int) (nn : Nat → Nat) (xx : Nat → Nat → Int) (t but : Int) : Nat → List Int
  | 0 => []
  | k + 1 => oTo D nn xx t but k ++ if can D nn but k = true then oOne nn xx t k else []
def oCo (D : Int) (nn : Nat → Nat) (but : Int) : Nat → Nat
  | 0 => 0
  | k + 1 => oCo D nn but k + if can D nn but k = true then 1 else 0
theorem oTo_len (D : Int) (nn : Nat → Nat) (xx : Nat → Nat → Int) (t but : Int) : ∀ k, (oTo D nn xx t but k).length = oCo D nn but k * 3
  | 0 => rfl
  | k + 1 => by
    have ih := oTo_len D nn xx t but k
    show (oTo D nn xx t but k ++ _).length = (oCo D nn but k + _) * 3
    rw [List.length_append, ih]
    split <;> simp [oOne] <;> omega
theorem oCo_le (D : Int) (nn : Nat → Nat) (but : Int) : ∀ k, oCo D nn but k ≤ k
  | 0 => Nat.le_refl _
  | k + 1 => by
    have := oCo_le D nn but k
    show oCo D nn but k + (if _ then 1 else 0) ≤ k + 1
    split <;> omega
theorem fo_congr {y z : Nat → Int} : ∀ m, (∀ j, j < m * 3 → y j = z j) → fo y m = fo z m
  | 0, _ => rfl
  | m + 1, h => by
    have ih := fo_congr m (fun j hj => h j (by omega))
    show (if m = 0 ∨ oLt y m (fo y m) then m else fo y m) = if m = 0 ∨ oLt z m (fo z m) then m else fo z m
    rcases Nat.eq_zero_or_pos m with h0 | h0
    · rw [if_pos (.inl h0), if_pos (.inl h0)]
    · have hl := fo_lt z m h0
      have e : oLt y m (fo y m) ↔ oLt z m (fo z m) := by
        unfold oLt
        rw [ih, h (m * 3 + 1) (by omega), h (m * 3 + 2) (by omega), h (fo z m * 3 + 1) (by omega), h (fo z m * 3 + 2) (by omega)]
      rw [ih] at e ⊢
      by_cases hq : oLt z m (fo z m)
      · rw [if_pos (.inr (e.2 hq)), if_pos (.inr hq)]
      · rw [if_neg (by rintro (h | h); omega; exact hq (e.1 h)), if_neg (by rintro (h | h); omega; exact hq h)]
theorem key_lt {nn : Nat → Nat} {xx : Nat → Nat → Int} {t : Int} {i j : Nat} (hi : tmOk (xx i) (nn i)) (hj : tmOk (xx j) (nn j)) :
    (opK (nn i) (lst (xx i) (nn i)) t < opK (nn j) (lst (xx j) (nn j)) t ∨ (opK (nn i) (lst (xx i) (nn i)) t = opK (nn j) (lst (xx j) (nn j)) t ∧ opC (nn i) (lst (xx i) (nn i)) t < opC (nn j) (lst (xx j) (nn j)) t)) ↔ lkey nn xx t i < lkey nn xx t j := by
  obtain ⟨a1, a2, a3⟩ := lst_bound hi
  obtain ⟨b1, b2, b3⟩ := lst_bound hj
  unfold opK opC lkey
  by_cases hi0 : nn i = 0
  · rw [if_pos hi0, if_pos hi0, if_pos hi0]
    by_cases hj0 : nn j = 0
    · rw [if_pos hj0, if_pos hj0, if_pos hj0]; omega
    · rw [if_neg hj0, if_neg hj0, if_neg hj0]
      have := b3 (by omega)
      by_cases h : t ≤ lst (xx j) (nn j)
      · rw [if_pos h, if_pos h, if_pos h]; omega
      · rw [if_neg h, if_neg h, if_neg h]; omega
  · rw [if_neg hi0, if_neg hi0, if_neg hi0]
    have := a3 (by omega)
    by_cases hj0 : nn j = 0
    · rw [if_pos hj0, if_pos hj0, if_pos hj0]
      by_cases h : t ≤ lst (xx i) (nn i)
      · rw [if_pos h, if_pos h, if_pos h]; omega
      · rw [if_neg h, if_neg h, if_neg h]; omega
    · rw [if_neg hj0, if_neg hj0, if_neg hj0]
      have := b3 (by omega)
      by_cases h : t ≤ lst (xx i) (nn i)
      · rw [if_pos h, if_pos h, if_pos h]
        by_cases h2 : t ≤ lst (xx j) (nn j)
        · rw [if_pos h2, if_pos h2, if_pos h2]; omega
        · rw [if_neg h2, if_neg h2, if_neg h2]; omega
      · rw [if_neg h, if_neg h, if_neg h]
        by_cases h2 : t ≤ lst (xx j) (nn j)
        · rw [if_pos h2, if_pos h2, if_pos h2]; omega
        · rw [if_neg h2, if_neg h2, if_neg h2]; omega
/-- The best opening is that of the best lane. -/
structure FoFb (D : Int) (nn : Nat → Nat) (xx : Nat → Nat → Int) (t but : Int) (k : Nat) : Prop where
  none : oCo D nn but k = 0 → fb (can D nn but) (lkey nn xx t) k = -1
  some : 0 < oCo D nn but k → ∃ i, i < k ∧ fb (can D nn but) (lkey nn xx t) k = (i : Int) ∧ ∀ z : Nat → Int, (∀ j, j < oCo D nn but k * 3 → z j = (oTo D nn xx t but k).getD j 0) →
    z (fo z (oCo D nn but k) * 3) = (i : Int) ∧ z (fo z (oCo D nn but k) * 3 + 1) = opK (nn i) (lst (xx i) (nn i)) t ∧ z (fo z (oCo D nn but k) * 3 + 2) = opC (nn i) (lst (xx i) (nn i)) t
theorem fo_fb {D : Int} {nn : Nat → Nat} {xx : Nat → Nat → Int} {t but : Int} : ∀ k, (∀ i, i < k → tmOk (xx i) (nn i)) → FoFb D nn xx t but k
  | 0, _ => ⟨fun _ => rfl, fun h => absurd h (by show ¬ (0 < 0); omega)⟩
  | k + 1, ht => by
    have ih := fo_fb (D := D) (t := t) (but := but) k (fun i hi => ht i (by omega))
    have hlen := oTo_len D nn xx t but k
    have e1 : oTo D nn xx t but (k + 1) = oTo D nn xx t but k ++ if can D nn but k = true then oOne nn xx t k else [] := rfl
    have e2 : oCo D nn but (k + 1) = oCo D nn but k + if can D nn but k = true then 1 else 0 := rfl
    have e3 : fb (can D nn but) (lkey nn xx t) (k + 1) = if can D nn but k = true ∧ (fb (can D nn but) (lkey nn xx t) k < 0 ∨ lkey nn xx t k < lkey nn xx t (fb (can D nn but) (lkey nn xx t) k).toNat) then (k : Int) else fb (can D nn but) (lkey nn xx t) k := rfl
    cases hc : can D nn but k with
    | false =>
      rw [hc] at e1 e2 e3
      rw [if_neg (by decide)] at e1 e2
      rw [if_neg (by rintro ⟨h, -⟩; cases h)] at e3
      rw [List.append_nil] at e1
      refine ⟨fun h => ?_, fun h => ?_⟩
      · rw [e3]; exact ih.none (by omega)
      · obtain ⟨i, h1, h2, h3⟩ := ih.some (by omega)
        refine ⟨i, by omega, by rw [e3]; exact h2, fun z hz => ?_⟩
        rw [e2, Nat.add_zero]
        rw [e2, Nat.add_zero, e1] at hz
        exact h3 z hz
    | true =>
      rw [hc] at e1 e2 e3
      rw [if_pos rfl] at e1 e2
      refine ⟨fun h => by omega, fun _ => ?_⟩
      have hnew : ∀ z : Nat → Int, (∀ j, j < oCo D nn but (k + 1) * 3 → z j = (oTo D nn xx t but (k + 1)).getD j 0) → (∀ j, j < oCo D nn but k * 3 → z j = (oTo D nn xx t but k).getD j 0) ∧ z (oCo D nn but k * 3) = (k : Int) ∧ z (oCo D nn but k * 3 + 1) = opK (nn k) (lst (xx k) (nn k)) t ∧ z (oCo D nn but k * 3 + 2) = opC (nn k) (lst (xx k) (nn k)) t := by
        intro z hz
        rw [e2, e1] at hz
        refine ⟨fun j hj => ?_, ?_, ?_, ?_⟩
        · rw [hz j (by omega), List.getD_eq_getElem?_getD, List.getElem?_append_left (by omega), ← List.getD_eq_getElem?_getD]
        · rw [hz _ (by omega), List.getD_eq_getElem?_getD, List.getElem?_append_right (by omega), show oCo D nn but k * 3 - (oTo D nn xx t but k).length = 0 by omega]; rfl
        · rw [hz _ (by omega), List.getD_eq_getElem?_getD, List.getElem?_append_right (by omega), show oCo D nn but k * 3 + 1 - (oTo D nn xx t but k).length = 1 by omega]; rfl
        · rw [hz _ (by omega), List.getD_eq_getElem?_getD, List.getElem?_append_right (by omega), show oCo D nn but k * 3 + 2 - (oTo D nn xx t but k).length = 2 by omega]; rfl
      have hfo : ∀ z : Nat → Int, fo z (oCo D nn but k + 1) = if oCo D nn but k = 0 ∨ oLt z (oCo D nn but k) (fo z (oCo D nn but k)) then oCo D nn but k else fo z (oCo D nn but k) := fun z => rfl
      rcases Nat.eq_zero_or_pos (oCo D nn but k) with hq | hq
      · refine ⟨k, by omega, by rw [e3, if_pos ⟨rfl, .inl (by rw [ih.none hq]; decide)⟩], fun z hz => ?_⟩
        obtain ⟨-, h2, h3, h4⟩ := hnew z hz
        rw [e2, hfo z, if_pos (.inl hq)]
        exact ⟨h2, h3, h4⟩
      · obtain ⟨i, h1, h2, h3⟩ := ih.some hq
        have hk := key_lt (t := t) (ht k (by omega)) (ht i (by omega))
        by_cases hl : lkey nn xx t k < lkey nn xx t i
        · refine ⟨k, by omega, by rw [e3, if_pos ⟨rfl, .inr (by rw [h2]; simpa using hl)⟩], fun z hz => ?_⟩
          obtain ⟨g1, g2, g3, g4⟩ := hnew z hz
          obtain ⟨q1, q2, q3⟩ := h3 z g1
          rw [e2, hfo z, if_pos (.inr (by unfold oLt; rw [g3, g4, q2, q3]; exact hk.2 hl))]
          exact ⟨g2, g3, g4⟩
        · refine ⟨i, by omega, by rw [e3, if_neg (by rintro ⟨-, h | h⟩; omega; rw [h2] at h; exact hl (by simpa using h)), h2], fun z hz => ?_⟩
          obtain ⟨g1, g2, g3, g4⟩ := hnew z hz
          obtain ⟨q1, q2, q3⟩ := h3 z g1
          rw [e2, hfo z, if_neg (by rintro (h | h); omega; unfold oLt at h; rw [g3, g4, q2, q3] at h; exact hl (hk.1 h))]
          exact ⟨q1, q2, q3⟩

end Go.Proofs.Ytokhkcebdbopcaa
