/- A bag that enters, in plain words. -/
import Derived.Test.YtobcgidakbbhpabEnterI
import Derived.Test.YtobcgidakbbhpabCoverI
namespace Go.Proofs.Ytobcgidakbbhpab

theorem lim_anti {L G : Int} {n : Nat} {z : Nat → Int} (h : OkP L G n z) : ∀ k, k ≤ n → lim L G z n ≤ lim L G z k := by
  intro k hk
  obtain ⟨d, rfl⟩ : ∃ d, n = k + d := ⟨n - k, by omega⟩
  clear hk
  have key : ∀ e, e ≤ d → lim L G z (k + e) ≤ lim L G z k := by
    intro e
    induction e with
    | zero => intro _; exact Int.le_refl _
    | succ e ih =>
      intro he
      have h1 := ih (by omega)
      have h2 := (h.2.2.2 (k + e) (by omega)).2.2.2.2.2
      have h3 := h.front (k := k + e) (by omega)
      have := h.2.1.1
      show z ((k + e) * 3 + 1) - z ((k + e) * 3 + 2) - G ≤ _
      omega
  exact key d (Nat.le_refl _)
theorem cvF_old {z : Nat → Int} {place : Int} {n : Nat} (h : ∃ k, k < n ∧ Cov z place k) : cvF z place (n + 1) = cvF z place n := by
  rw [cvF, if_pos h]
theorem cvF_new {z : Nat → Int} {place : Int} {n : Nat} (h : ¬ ∃ k, k < n ∧ Cov z place k) (hc : Cov z place n) : cvF z place (n + 1) = z (n * 3) := by
  rw [cvF, if_neg h, if_pos hc]
theorem cvF_not {z : Nat → Int} {place : Int} {n : Nat} (h : ¬ ∃ k, k < n ∧ Cov z place k) (hc : ¬ Cov z place n) : cvF z place (n + 1) = 0 := by
  rw [cvF, if_neg h, if_neg hc]
theorem cvF_congr {z z' : Nat → Int} {place : Int} : ∀ n, (∀ j, j < n * 3 → z j = z' j) → cvF z place n = cvF z' place n
  | 0, _ => rfl
  | n + 1, h => by
    have ih := cvF_congr (place := place) n (fun j hj => h j (by omega))
    have hcov : ∀ k, k < n + 1 → (Cov z place k ↔ Cov z' place k) := fun k hk => by
      unfold Cov
      rw [h (k * 3 + 1) (by omega), h (k * 3 + 2) (by omega)]
    by_cases hx : ∃ k, k < n ∧ Cov z place k
    · obtain ⟨k, hk, hc⟩ := hx
      rw [cvF_old ⟨k, hk, hc⟩, cvF_old ⟨k, hk, (hcov k (by omega)).1 hc⟩, ih]
    · have hx' : ¬ ∃ k, k < n ∧ Cov z' place k := fun ⟨k, hk, hc⟩ => hx ⟨k, hk, (hcov k (by omega)).2 hc⟩
      by_cases hn : Cov z place n
      · rw [cvF_new hx hn, cvF_new hx' ((hcov n (by omega)).1 hn), h (n * 3) (by omega)]
      · rw [cvF_not hx hn, cvF_not hx' (fun hc => hn ((hcov n (by omega)).2 hc))]
theorem enter_facts {L G : Int} {n : Nat} {z : Nat → Int} {bag s : Int} (h : enOk L G n z bag s) :
    okB L G (n + 1) (enY n z bag s) = true ∧ (1 ≤ s ∧ s ≤ 60) ∧ cvB L G (n + 1) (enY n z bag s) 1 = bag ∧ cvB L G (n + 1) (enY n z bag s) s = bag ∧ cvB L G (n + 1) (enY n z bag s) (s + 1) = cvB L G n z (s + 1) ∧ cvB L G (n + 1) (enY n z bag s) 0 = 0 := by
  obtain ⟨hk, hb, hne, hin, hn, hf⟩ := h
  have hok := okB_iff.1 hk
  have hs : 1 ≤ s ∧ s ≤ 60 := by simpa [inB] using hin
  have hlim : s ≤ lim L G z n := by
    unfold frB at hf
    rw [if_pos hk] at hf
    omega
  have el : ∀ j, j < n * 3 → enY n z bag s j = z j := fun j hj => if_pos hj
  have e0 : enY n z bag s (n * 3) = bag := by unfold enY; rw [if_neg (by omega), if_pos rfl]
  have e1 : enY n z bag s (n * 3 + 1) = s := by unfold enY; rw [if_neg (by omega), if_neg (by omega)]
  have e2 : enY n z bag s (n * 3 + 2) = s := by unfold enY; rw [if_neg (by omega), if_neg (by omega)]
  have elim : ∀ k, k ≤ n → lim L G (enY n z bag s) k = lim L G z k := fun k hk => by
    cases k with
    | zero => rfl
    | succ k => show enY n z bag s (k * 3 + 1) - enY n z bag s (k * 3 + 2) - G = z (k * 3 + 1) - z (k * 3 + 2) - G; rw [el _ (by omega), el _ (by omega)]
  have hok' : OkP L G (n + 1) (enY n z bag s) := by
    refine ⟨hok.1, hok.2.1, by omega, fun k hk => ?_⟩
    by_cases e : k = n
    · subst e
      refine ⟨by rw [e0]; exact hb, fun j hj => by rw [e0, el _ (by omega)]; exact fun hc => hne ⟨j, hj, hc⟩, by rw [e2]; exact hs.1, by rw [e2]; exact hs.2, by rw [e1, e2]; exact Int.le_refl _, by rw [e1, elim k (Nat.le_refl _)]; exact hlim⟩
    · obtain ⟨a1, a2, a3, a4, a5, a6⟩ := hok.2.2.2 k (by omega)
      exact ⟨by rw [el _ (by omega)]; exact a1, fun j hj => by rw [el _ (by omega), el _ (by omega)]; exact a2 j hj, by rw [el _ (by omega)]; exact a3, by rw [el _ (by omega)]; exact a4, by rw [el _ (by omega), el _ (by omega)]; exact a5, by rw [el _ (by omega), elim k (by omega)]; exact a6⟩
  have hk' := okB_yes hok'
  have hfar : ∀ j, j < n → s + G ≤ z (j * 3 + 1) - z (j * 3 + 2) := fun j hj => by
    have h1 := lim_anti hok (j + 1) (by omega)
    have h2 : lim L G z (j + 1) = z (j * 3 + 1) - z (j * 3 + 2) - G := rfl
    omega
  have hG := hok.2.1.1
  have hcn : ∀ pl, Cov (enY n z bag s) pl n ↔ (0 < pl ∧ pl ≤ s) := fun pl => by
    unfold Cov
    rw [e1, e2]
    omega
  have hcj : ∀ pl j, pl ≤ s → j < n → ¬ Cov (enY n z bag s) pl j := fun pl j hp hj hc => by
    unfold Cov at hc
    rw [el _ (by omega), el _ (by omega)] at hc
    have := hfar j hj
    omega
  refine ⟨hk', hs, ?_, ?_, ?_, ?_⟩
  · unfold cvB
    rw [if_pos hk', cvF_at ((hcn 1).2 (by omega)) (fun j hj => hcj 1 j (by omega) hj) (n + 1) (by omega), e0]
  · unfold cvB
    rw [if_pos hk', cvF_at ((hcn s).2 (by omega)) (fun j hj => hcj s j (by omega) hj) (n + 1) (by omega), e0]
  · unfold cvB
    rw [if_pos hk', if_pos hk]
    have hnc : ¬ Cov (enY n z bag s) (s + 1) n := fun hc => by have := (hcn (s + 1)).1 hc; omega
    have hco := cvF_congr (z := enY n z bag s) (z' := z) (place := s + 1) n el
    by_cases hx : ∃ k, k < n ∧ Cov (enY n z bag s) (s + 1) k
    · rw [cvF_old hx, hco]
    · rw [cvF_not hx hnc, ← hco, cvF_none n (fun k hk hc => hx ⟨k, hk, hc⟩)]
  · unfold cvB
    rw [if_pos hk']
    refine cvF_none (n + 1) (fun k hk hc => ?_)
    by_cases e : k = n
    · subst e; have := (hcn 0).1 hc; omega
    · exact hcj 0 k (by omega) (by omega) hc

end Go.Proofs.Ytobcgidakbbhpab
