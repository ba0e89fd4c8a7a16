/- The law of windows: what both calls answer, in plain words. -/
import Derived.Test.YtlklggkkkbamhaaWinLaw
import Derived.Test.YtlklggkkkbamhaaTrackPlain
namespace Go.Proofs.Ytlklggkkkbamhaa
set_option linter.unusedVariables false

theorem win_facts {L G : Int} {q : Nat} {z : Nat → Int} (h : OkP L G q z) (hq : q ≤ 6) {pl now : Int} (h1 : 1 ≤ pl) (h2 : pl ≤ L) (h3 : 0 ≤ now) (h4 : now < 1000) :
    ∃ N d, N + d ≤ q ∧ winB L G q z pl now 0 = true ∧ winB L G q z pl now 7 = true ∧ winN L G q z pl now 0 = N ∧ winN L G q z pl now 7 = N ∧ ExP N (winZ q z pl now 0) ∧
      ∀ i, i < N → z ((d + i) * 3 + 1) < pl ∧ 1 ≤ z ((d + i) * 3 + 1) ∧ winZ q z pl now 0 (i * 3) = z ((d + i) * 3) ∧ winZ q z pl now 0 (i * 3 + 1) = now + pl - z ((d + i) * 3 + 1) ∧ winZ q z pl now 0 (i * 3 + 2) = now + pl - z ((d + i) * 3 + 1) ∧
        winZ q z pl now 7 (i * 3) = z ((d + i) * 3) ∧ winZ q z pl now 7 (i * 3 + 1) = max 0 (now + pl - z ((d + i) * 3 + 1) - 7) ∧ winZ q z pl now 7 (i * 3 + 2) = now + pl - z ((d + i) * 3 + 1) + 7 := by
  obtain ⟨d, e1, e2, e3, e4, e5⟩ := wTo_from h pl now 0 q (Nat.le_refl _)
  obtain ⟨d', f1, f2, f3, f4, f5⟩ := wTo_from h pl now 7 q (Nat.le_refl _)
  have hco := wCo_le z pl q
  have hd : d' = d := by omega
  subst hd
  obtain ⟨a1, a2⟩ := win_yes (place := pl) (now := now) (slack := 0) (okB_yes h) (inB_iff.2 ⟨h1, h2⟩) (inB_iff.2 ⟨h3, by omega⟩) (inB_iff.2 ⟨by omega, by omega⟩) (by omega)
  obtain ⟨b1, b2⟩ := win_yes (place := pl) (now := now) (slack := 7) (okB_yes h) (inB_iff.2 ⟨h1, h2⟩) (inB_iff.2 ⟨h3, by omega⟩) (inB_iff.2 ⟨by omega, by omega⟩) (by omega)
  have hL := h.1.2
  have key : ∀ i, i < q - d' → z ((d' + i) * 3 + 1) < pl ∧ 1 ≤ z ((d' + i) * 3 + 1) ∧ winZ q z pl now 0 (i * 3) = z ((d' + i) * 3) ∧ winZ q z pl now 0 (i * 3 + 1) = now + pl - z ((d' + i) * 3 + 1) ∧ winZ q z pl now 0 (i * 3 + 2) = now + pl - z ((d' + i) * 3 + 1) ∧
        winZ q z pl now 7 (i * 3) = z ((d' + i) * 3) ∧ winZ q z pl now 7 (i * 3 + 1) = max 0 (now + pl - z ((d' + i) * 3 + 1) - 7) ∧ winZ q z pl now 7 (i * 3 + 2) = now + pl - z ((d' + i) * 3 + 1) + 7 := by
    intro i hi
    have g1 := e3 (d' + i) (by omega) (by omega)
    have g2 := h.front (k := d' + i) (by omega)
    obtain ⟨u0, u1, u2⟩ := e5 i hi
    obtain ⟨v0, v1, v2⟩ := f5 i hi
    have c0 : ∀ t : Int, 0 ≤ t → t ≤ 100000 → clI t = t := fun t p1 p2 => by unfold clI; rw [if_neg (by omega), if_neg (by omega)]
    refine ⟨g1, by omega, u0, u1.trans ?_, u2.trans ?_, v0, v1.trans ?_, v2.trans ?_⟩
    · rw [c0 _ (by omega) (by omega)]; omega
    · rw [c0 _ (by omega) (by omega)]; omega
    · rcases Int.lt_or_le (now + pl - z ((d' + i) * 3 + 1) - 7) 0 with e | e
      · unfold clI; rw [if_pos e]; omega
      · rw [c0 _ e (by omega)]; omega
    · rw [c0 _ (by omega) (by omega)]
  refine ⟨q - d', d', by omega, a1, b1, by rw [a2, e4], by rw [b2, e4], ⟨by omega, fun k hk => ?_⟩, key⟩
  obtain ⟨k1, k2, k3, k4, k5, -⟩ := key k hk
  have g2 := h.front (k := d' + k) (by omega)
  refine ⟨by rw [k3]; exact g2.1, ?_, by rw [k4]; omega, by rw [k4, k5]; omega, by rw [k5]; omega⟩
  rintro ⟨j, hj, ej⟩
  obtain ⟨j1, j2, j3, -⟩ := key j (by omega)
  rw [j3, k3] at ej
  exact (h.2.2.2 (d' + k) (by omega)).2.1 (d' + j) (by omega) ej

end Go.Proofs.Ytlklggkkkbamhaa
