/- What the law of windows asks, in plain words. -/
import Derived.Test.YtlklggkkkbamhaaWinPlain
import Derived.Test.YtlklggkkkbamhaaRunPlain
namespace Go.Proofs.Ytlklggkkkbamhaa
set_option linter.unusedVariables false

theorem front_le2 {L G : Int} {n : Nat} {z : Nat → Int} (h : OkP L G n z) {c : Nat} : ∀ d, c + d < n → z ((c + d) * 3 + 1) ≤ z (c * 3 + 1)
  | 0, _ => Int.le_refl _
  | d + 1, hd => by
    have ih := front_le2 h (c := c) d (by omega)
    have := front_lt h (k := c + d) (by omega)
    show z ((c + d + 1) * 3 + 1) ≤ _
    omega
/-- The items that are not at the place yet are the last ones, from d on. -/
theorem wTo_from {L G : Int} {n : Nat} {z : Nat → Int} (h : OkP L G n z) (place now slack : Int) : ∀ k, k ≤ n → ∃ d, d ≤ k ∧ (∀ j, j < d → place ≤ z (j * 3 + 1)) ∧ (∀ j, d ≤ j → j < k → z (j * 3 + 1) < place) ∧ wCo z place k = k - d ∧
    ∀ i, i < k - d → (wTo z place now slack k).getD (i * 3) 0 = z ((d + i) * 3) ∧ (wTo z place now slack k).getD (i * 3 + 1) 0 = clI (now + place - z ((d + i) * 3 + 1) - slack) ∧ (wTo z place now slack k).getD (i * 3 + 2) 0 = clI (now + place - z ((d + i) * 3 + 1) + slack)
  | 0, _ => ⟨0, Nat.le_refl _, fun j hj => absurd hj (by omega), fun j _ hj => absurd hj (by omega), rfl, fun i hi => absurd hi (by omega)⟩
  | k + 1, hk => by
    obtain ⟨d, h1, h2, h3, h4, h5⟩ := wTo_from h place now slack k (by omega)
    have hlen := wTo_len z place now slack k
    have e1 : wTo z place now slack (k + 1) = wTo z place now slack k ++ wOne z place now slack k := rfl
    have e2 : wCo z place (k + 1) = wCo z place k + if z (k * 3 + 1) < place then 1 else 0 := rfl
    by_cases hp : z (k * 3 + 1) < place
    · refine ⟨d, by omega, h2, fun j hj1 hj2 => ?_, ?_, fun i hi => ?_⟩
      · by_cases e : j = k
        · subst e; exact hp
        · exact h3 j hj1 (by omega)
      · rw [e2, if_pos hp, h4]; omega
      · rw [e1]
        have e3 : wOne z place now slack k = [z (k * 3), clI (now + place - z (k * 3 + 1) - slack), clI (now + place - z (k * 3 + 1) + slack)] := if_pos hp
        rw [e3]
        by_cases ei : i = k - d
        · have hl : (wTo z place now slack k).length = i * 3 := by rw [hlen, h4, ei]
          have ek : d + i = k := by omega
          rw [ek]
          refine ⟨?_, ?_, ?_⟩
          · rw [List.getD_eq_getElem?_getD, List.getElem?_append_right (by omega), show i * 3 - (wTo z place now slack k).length = 0 by omega]; rfl
          · rw [List.getD_eq_getElem?_getD, List.getElem?_append_right (by omega), show i * 3 + 1 - (wTo z place now slack k).length = 1 by omega]; rfl
          · rw [List.getD_eq_getElem?_getD, List.getElem?_append_right (by omega), show i * 3 + 2 - (wTo z place now slack k).length = 2 by omega]; rfl
        · obtain ⟨g1, g2, g3⟩ := h5 i (by omega)
          have hl : i * 3 + 2 < (wTo z place now slack k).length := by rw [hlen, h4]; omega
          refine ⟨?_, ?_, ?_⟩
          · rw [List.getD_eq_getElem?_getD, List.getElem?_append_left (by omega), ← List.getD_eq_getElem?_getD]; exact g1
          · rw [List.getD_eq_getElem?_getD, List.getElem?_append_left (by omega), ← List.getD_eq_getElem?_getD]; exact g2
          · rw [List.getD_eq_getElem?_getD, List.getElem?_append_left (by omega), ← List.getD_eq_getElem?_getD]; exact g3
    · have hdk : d = k := by
        rcases Nat.lt_or_ge d k with e | e
        · have g1 := h3 (k - 1) (by omega) (by omega)
          have g2 := front_lt h (k := k - 1) (by omega)
          rw [show k - 1 + 1 = k by omega] at g2
          omega
        · omega
      refine ⟨k + 1, Nat.le_refl _, fun j hj => ?_, fun j hj1 hj2 => absurd hj1 (by omega), ?_, fun i hi => absurd hi (by omega)⟩
      · by_cases e : j = k
        · subst e; omega
        · exact h2 j (by omega)
      · rw [e2, if_neg hp, h4]; omega
/-- A run of as many steps as an item has to the place brings it there. -/
theorem run_to {L G : Int} {n : Nat} {z : Nat → Int} (h : OkP L G n z) {place : Int} (hp : place ≤ L) {k : Nat} (hk : k < n) (hz : z (k * 3 + 1) < place) {s : Nat} (hs : (s : Int) = place - z (k * 3 + 1)) :
    ∃ m, m < (ru L G false n z s).n ∧ (ru L G false n z s).z (m * 3) = z (k * 3) ∧ (ru L G false n z s).z (m * 3 + 1) = place := by
  obtain ⟨c, hc⟩ := ru_at h s
  have hck : c ≤ k := by
    rcases Nat.lt_or_ge k c with e | e
    · have := hc.gone k e; omega
    · exact e
  have h1 := hc.row ((k - c) * 3) (by omega)
  have h2 := hc.row ((k - c) * 3 + 1) (by omega)
  rw [if_neg (by omega), show (k - c) * 3 + c * 3 = k * 3 by omega] at h1
  rw [if_pos (by omega), show (k - c) * 3 + 1 + c * 3 = k * 3 + 1 by omega] at h2
  exact ⟨k - c, by rw [hc.num]; omega, by rw [h1]; omega, by rw [h2]; omega⟩

end Go.Proofs.Ytlklggkkkbamhaa
