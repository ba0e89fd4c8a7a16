/- Elapse in two parts, and when it leads to the last level. -/
import Derived.Test.YtkdlhapbbnggoabScrPlain
namespace Go.Proofs.Ytkdlhapbbnggoab

theorem elp_more {z : Nat → Int} {now : Int} : ∀ (f : Nat) (L S : Int), 4 - L ≤ (f : Int) → elp z now (f + 1) L S = elp z now f L S
  | 0, L, S, h => elp_stop (fun h' => by have := h'.1; omega) 1
  | f + 1, L, S, h => by
    by_cases c : ovr z now L S
    · rw [elp_go c, elp_go c, elp_more f _ _ (by omega)]
    · rw [elp_stop c, elp_stop c]
theorem elp_comp {z : Nat → Int} {a b : Int} (hab : a ≤ b) : ∀ (f : Nat) (L S : Int), 1 ≤ L → elp z b 3 (elp z a f L S).1 (elp z a f L S).2 = elp z b 3 L S
  | 0, L, S, _ => rfl
  | f + 1, L, S, h1 => by
    by_cases c : ovr z a L S
    · rw [elp_go c, elp_comp hab f (L + 1) _ (by omega)]
      have cb : ovr z b L S := ⟨c.1, by have := c.2; omega⟩
      rw [elp_go cb, elp_more 2 _ _ (by omega)]
    · rw [elp_stop c]
theorem eLS_two {n : Nat} {z : Nat → Int} {L S V a b : Int} (hp : PoP n z) (hs : ScP L S V) (ha : 0 ≤ a ∧ a ≤ 100000) (hb : 0 ≤ b ∧ b ≤ 100000) (hab : a ≤ b) :
    ScP (eL n z L S V a) (eS n z L S V a) V ∧ L ≤ eL n z L S V a ∧ eL n z L S V a ≤ eL n z (eL n z L S V a) (eS n z L S V a) V b ∧ eL n z (eL n z L S V a) (eS n z L S V a) V b = eL n z L S V b ∧ eS n z (eL n z L S V a) (eS n z L S V a) V b = eS n z L S V b := by
  by_cases hV : V = 0
  · obtain ⟨e1, e2⟩ := eLS_yes (z := z) ⟨hp, hs, ha, hV⟩ (L' := (elp z a 3 L S).1) (S' := (elp z a 3 L S).2) rfl
    obtain ⟨r1, r2, r3, r4⟩ := elp_range (hp.1 ▸ hp.2) (now := a) 3 L S hs.1.1 hs.1.2
    have hs' : ScP (elp z a 3 L S).1 (elp z a 3 L S).2 V := ⟨by have := hs.1; omega, by have := hs.2.1; omega, .inl hV⟩
    obtain ⟨q1, q2, -, -⟩ := elp_range (hp.1 ▸ hp.2) (now := b) 3 (elp z a 3 L S).1 (elp z a 3 L S).2 hs'.1.1 hs'.1.2
    rw [e1, e2]
    obtain ⟨f1, f2⟩ := eLS_yes (z := z) ⟨hp, hs', hb, hV⟩ (L' := (elp z b 3 (elp z a 3 L S).1 (elp z a 3 L S).2).1) (S' := (elp z b 3 (elp z a 3 L S).1 (elp z a 3 L S).2).2) rfl
    obtain ⟨g1, g2⟩ := eLS_yes (z := z) ⟨hp, hs, hb, hV⟩ (L' := (elp z b 3 L S).1) (S' := (elp z b 3 L S).2) rfl
    have hc := elp_comp (z := z) hab 3 L S hs.1.1
    rw [f1, f2, g1, g2, hc]
    rw [hc] at q1
    exact ⟨hs', r1, q1, rfl, rfl⟩
  · obtain ⟨e1, e2⟩ := eLS_no (n := n) (z := z) (L := L) (S := S) (V := V) (now := a) (fun h => hV h.2.2.2)
    obtain ⟨f1, f2⟩ := eLS_no (n := n) (z := z) (L := L) (S := S) (V := V) (now := b) (fun h => hV h.2.2.2)
    rw [e1, e2, f1, f2]
    exact ⟨hs, Int.le_refl _, Int.le_refl _, rfl, rfl⟩
/-- The time that HandTime tells is the first at the last level. -/
theorem ht_at {n : Nat} {z : Nat → Int} {L S V : Int} (hp : PoP n z) (hs : ScP L S V) (hsm : S ≤ 1000) :
    (htB n z L S V = false → V ≠ 0) ∧ (htB n z L S V = true → V = 0 ∧ S ≤ htI n z L S V ∧ htI n z L S V ≤ 100000 ∧ eL n z L S V (htI n z L S V) = 4 ∧ (htI n z L S V = S ∨ S < htI n z L S V ∧ eL n z L S V (htI n z L S V - 1) < 4)) := by
  have hn3 := hp.1
  have z0 := hp.2 0 (by omega)
  have z1 := hp.2 1 (by omega)
  have z2 := hp.2 2 (by omega)
  have hlo : S ≤ hT z L S ∧ hT z L S ≤ 20000 := by
    have := hs.2.1
    unfold hT
    split <;> split <;> split <;> omega
  by_cases hV : V = 0
  · have hH : HtP n z L S V := ⟨hp, hs, hV, by omega⟩
    obtain ⟨e1, e2⟩ := ht_yes hH
    rw [e1, e2]
    refine ⟨fun h => absurd h (by decide), fun _ => ⟨hV, hlo.1, by omega, ?_, ?_⟩⟩
    · rw [(eLS_yes ⟨hp, hs, ⟨by have := hs.2.1; omega, by omega⟩, hV⟩ rfl).1]
      exact (hT_iff (hp.1 ▸ hp.2) hs.1.1 hs.1.2 hlo.1).2 (Int.le_refl _)
    · by_cases h4 : hT z L S = S
      · exact .inl h4
      · refine .inr ⟨by omega, ?_⟩
        rw [(eLS_yes ⟨hp, hs, ⟨by have := hs.2.1; omega, by omega⟩, hV⟩ rfl).1]
        have h1 := hT_iff (hp.1 ▸ hp.2) hs.1.1 hs.1.2 (t := hT z L S - 1) (S := S) (by omega)
        obtain ⟨-, h2, -, -⟩ := elp_range (hp.1 ▸ hp.2) (now := hT z L S - 1) 3 L S hs.1.1 hs.1.2
        have h3 : ¬ (elp z (hT z L S - 1) 3 L S).1 = 4 := fun h => by have := h1.1 h; omega
        exact Int.lt_iff_le_and_ne.2 ⟨h2, h3⟩
  · obtain ⟨e1, e2⟩ := ht_no (n := n) (z := z) (L := L) (S := S) (V := V) (fun h => hV h.2.2.1)
    rw [e2]
    exact ⟨fun _ => hV, fun h => absurd h (by decide)⟩

end Go.Proofs.Ytkdlhapbbnggoab
