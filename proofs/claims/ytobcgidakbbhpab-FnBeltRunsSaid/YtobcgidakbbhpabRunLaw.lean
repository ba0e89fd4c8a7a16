/- What the law of runs asks, in plain words. -/
import Derived.Test.YtobcgidakbbhpabRunPlain
namespace Go.Proofs.Ytobcgidakbbhpab

theorem front_le {L G : Int} {n : Nat} {z : Nat → Int} (h : OkP L G n z) {c : Nat} : ∀ d, c + d < n → z ((c + d) * 3 + 1) ≤ z (c * 3 + 1)
  | 0, _ => Int.le_refl _
  | d + 1, hd => by
    have ih := front_le h (c := c) d (by omega)
    have := front_lt h (k := c + d) (by omega)
    show z ((c + d + 1) * 3 + 1) ≤ _
    omega
theorem ru_law {L G : Int} {H : Bool} {n : Nat} {z : Nat → Int} (h : OkP L G n z) (s : Nat) : ∃ c, c ≤ n ∧ (ru L G H n z s).n + c = n ∧ (∀ i, i < c → H = false ∧ L - z (i * 3 + 1) < (s : Int) ∧ (ru L G H n z s).l.getD (i * 2) 0 = z (i * 3) ∧ (ru L G H n z s).l.getD (i * 2 + 1) 0 = L - z (i * 3 + 1)) ∧ (∀ i, c ≤ i → i < n → H = true ∨ (s : Int) ≤ L - z (i * 3 + 1)) := by
  cases H with
  | true =>
    obtain ⟨h1, -⟩ := ru_held (L := L) (G := G) (n := n) (z := z) s
    exact ⟨0, by omega, by omega, fun i hi => absurd hi (by omega), fun i _ _ => .inl rfl⟩
  | false =>
    obtain ⟨c, hc⟩ := ru_at h s
    refine ⟨c, hc.le, by rw [hc.num]; have := hc.le; omega, fun i hi => ⟨rfl, hc.gone i hi, hc.out i hi⟩, fun i h1 h2 => .inr ?_⟩
    have h3 := hc.next (by omega)
    obtain ⟨d, rfl⟩ : ∃ d, i = c + d := ⟨i - c, by omega⟩
    have := front_le h d h2
    omega

end Go.Proofs.Ytobcgidakbbhpab
