/- How many new bags a belt takes, in plain words. -/
import Derived.Test.YtobcgidakbbhpabMoveFront
namespace Go.Proofs.Ytobcgidakbbhpab

/-- Where item k stands when all items have closed up. -/
def tg (L G : Int) (z : Nat → Int) : Nat → Int
  | 0 => L
  | k + 1 => tg L G z k - z (k * 3 + 2) - G
theorem tg_len {L G : Int} {z z' : Nat → Int} : ∀ k, (∀ j, j < k → z (j * 3 + 2) = z' (j * 3 + 2)) → tg L G z k = tg L G z' k
  | 0, _ => rfl
  | k + 1, h => by
    show tg L G z k - z (k * 3 + 2) - G = tg L G z' k - z' (k * 3 + 2) - G
    rw [tg_len k (fun j hj => h j (by omega)), h k (by omega)]
theorem lim_le_tg {L G : Int} {n : Nat} {z : Nat → Int} (h : OkP L G n z) : ∀ k, k ≤ n → lim L G z k ≤ tg L G z k
  | 0, _ => Int.le_refl _
  | k + 1, hk => by
    have h1 := lim_le_tg h k (by omega)
    have h2 := (h.2.2.2 k (by omega)).2.2.2.2.2
    show z (k * 3 + 1) - z (k * 3 + 2) - G ≤ tg L G z k - z (k * 3 + 2) - G
    omega
theorem tg_hi {L G : Int} {n : Nat} {z : Nat → Int} (h : OkP L G n z) : ∀ k, k ≤ n → tg L G z k ≤ L
  | 0, _ => Int.le_refl _
  | k + 1, hk => by
    have h1 := tg_hi h k (by omega)
    have h2 := h.front (k := k) (by omega)
    have := h.2.1.1
    show tg L G z k - z (k * 3 + 2) - G ≤ L
    omega
theorem front_tg {L G : Int} {n : Nat} {z : Nat → Int} (h : OkP L G n z) {k : Nat} (hk : k < n) : z (k * 3 + 1) ≤ tg L G z k := Int.le_trans (h.2.2.2 k hk).2.2.2.2.2 (lim_le_tg h k (by omega))
theorem tg_lo {L G : Int} {n : Nat} {z : Nat → Int} (h : OkP L G n z) : ∀ k, k ≤ n → -80 ≤ tg L G z k
  | 0, _ => by show -80 ≤ L; have := h.1.1; omega
  | k + 1, hk => by
    have h1 := front_tg h (k := k) (by omega)
    have h2 := h.front (k := k) (by omega)
    have := h.2.1.2
    show -80 ≤ tg L G z k - z (k * 3 + 2) - G
    omega
theorem mv_tg {L G : Int} {n : Nat} {z : Nat → Int} (h : OkP L G n z) (s : Nat) : ∀ k, k < n → mvZ L G s z (k * 3 + 1) = min (z (k * 3 + 1) + (s : Int)) (tg L G z k)
  | 0, hk => mvZ_front h hk s
  | k + 1, hk => by
    have ih := mv_tg h s k (by omega)
    have h1 := mvZ_front h hk s
    have h2 : z ((k + 1) * 3 + 1) ≤ z (k * 3 + 1) - z (k * 3 + 2) - G := (h.2.2.2 (k + 1) hk).2.2.2.2.2
    have h3 : lim L G (mvZ L G s z) (k + 1) = mvZ L G s z (k * 3 + 1) - z (k * 3 + 2) - G := by rw [← mvZ_len (L := L) (G := G) (z := z) s k]; rfl
    rw [h1, h3, ih]
    show _ = min _ (tg L G z k - z (k * 3 + 2) - G)
    omega
/-- When 400 steps are done all have closed up. -/
theorem mv_all {L G : Int} {n : Nat} {z : Nat → Int} (h : OkP L G n z) {k : Nat} (hk : k < n) : mvZ L G 400 z (k * 3 + 1) = tg L G z k := by
  have h1 := mv_tg h 400 k hk
  have h2 := tg_hi h k (by omega)
  have h3 := h.front hk
  have := h.1.2
  rw [h1]
  omega
/-- The belt has closed up. -/
def Clo (L G : Int) (m : Nat) (z : Nat → Int) (f : Int) : Prop := OkP L G m z ∧ (∀ k, k < m → z (k * 3 + 1) = tg L G z k) ∧ tg L G z m = f
theorem Clo.lim {L G : Int} {m : Nat} {z : Nat → Int} {f : Int} (h : Clo L G m z f) : lim L G z m = f := by
  rw [← h.2.2]
  cases m with
  | zero => rfl
  | succ k => show z (k * 3 + 1) - z (k * 3 + 2) - G = _; rw [h.2.1 k (by omega)]; rfl
theorem Clo.of_ok {L G : Int} {m : Nat} {z : Nat → Int} (h : OkP L G m z) : Clo L G m (mvZ L G 400 z) (tg L G z m) := by
  have e : ∀ k, tg L G (mvZ L G 400 z) k = tg L G z k := fun k => tg_len k (fun j _ => mvZ_len 400 j)
  exact ⟨h.move 400, fun k hk => by rw [mv_all h hk, e], e m⟩
/-- The row with a new last item. -/
def nwY (n : Nat) (z : Nat → Int) (bag size : Int) : Nat → Int := fun j => if j < n * 3 then z j else if j = n * 3 then bag else size
theorem nwY_ok {L G : Int} {m : Nat} {z : Nat → Int} {bag s : Int} (h : OkP L G m z) (hm : m < 40) (hb : 1 ≤ bag) (hne : ∀ j, j < m → z (j * 3) ≠ bag) (hs : 1 ≤ s ∧ s ≤ 60) (hf : s ≤ lim L G z m) : OkP L G (m + 1) (nwY m z bag s) := by
  have el : ∀ j, j < m * 3 → nwY m z bag s j = z j := fun j hj => if_pos hj
  have e0 : nwY m z bag s (m * 3) = bag := by unfold nwY; rw [if_neg (by omega), if_pos rfl]
  have e1 : nwY m z bag s (m * 3 + 1) = s := by unfold nwY; rw [if_neg (by omega), if_neg (by omega)]
  have e2 : nwY m z bag s (m * 3 + 2) = s := by unfold nwY; rw [if_neg (by omega), if_neg (by omega)]
  have elim : ∀ k, k ≤ m → lim L G (nwY m z bag s) k = lim L G z k := fun k hk => by
    cases k with
    | zero => rfl
    | succ k => show nwY m z bag s (k * 3 + 1) - nwY m z bag s (k * 3 + 2) - G = z (k * 3 + 1) - z (k * 3 + 2) - G; rw [el _ (by omega), el _ (by omega)]
  refine ⟨h.1, h.2.1, by omega, fun k hk => ?_⟩
  by_cases e : k = m
  · subst e
    refine ⟨by rw [e0]; exact hb, fun j hj => by rw [e0, el _ (by omega)]; exact hne j hj, by rw [e2]; exact hs.1, by rw [e2]; exact hs.2, by rw [e1, e2]; exact Int.le_refl _, by rw [e1, elim k (Nat.le_refl _)]; exact hf⟩
  · obtain ⟨a1, a2, a3, a4, a5, a6⟩ := h.2.2.2 k (by omega)
    exact ⟨by rw [el _ (by omega)]; exact a1, fun j hj => by rw [el _ (by omega), el _ (by omega)]; exact a2 j hj, by rw [el _ (by omega)]; exact a3, by rw [el _ (by omega)]; exact a4, by rw [el _ (by omega), el _ (by omega)]; exact a5, by rw [el _ (by omega), elim k (by omega)]; exact a6⟩
theorem Clo.next {L G : Int} {m : Nat} {z : Nat → Int} {f bag s : Int} (h : Clo L G m z f) (hm : m < 40) (hb : 1 ≤ bag) (hne : ∀ j, j < m → z (j * 3) ≠ bag) (hs : 1 ≤ s ∧ s ≤ 60) (hf : s ≤ f) : Clo L G (m + 1) (mvZ L G 400 (nwY m z bag s)) (f - s - G) := by
  have hok := nwY_ok h.1 hm hb hne hs (by rw [h.lim]; exact hf)
  have hc := Clo.of_ok hok
  have e2 : nwY m z bag s (m * 3 + 2) = s := by unfold nwY; rw [if_neg (by omega), if_neg (by omega)]
  have et : tg L G (nwY m z bag s) m = tg L G z m := tg_len m (fun j hj => if_pos (by omega))
  have e : tg L G (nwY m z bag s) (m + 1) = f - s - G := by
    show tg L G (nwY m z bag s) m - nwY m z bag s (m * 3 + 2) - G = _
    rw [et, e2, h.2.2]
  rw [e] at hc
  exact hc
theorem Clo.lo {L G : Int} {m : Nat} {z : Nat → Int} {f : Int} (h : Clo L G m z f) : -80 ≤ f ∧ f ≤ 400 := by
  have h1 := tg_lo h.1 m (Nat.le_refl _)
  have h2 := tg_hi h.1 m (Nat.le_refl _)
  have := h.1.1.2
  rw [h.2.2] at h1 h2
  omega

/-! How many enter. -/
/-- The places that are free when i bags are on. -/
def fre (G f0 : Int) (y : Nat → Int) : Nat → Int
  | 0 => f0
  | i + 1 => fre G f0 y i - y i - G
def IsRoom (G f0 : Int) (n m : Nat) (y : Nat → Int) (r : Nat) : Prop :=
  r ≤ m ∧ (∀ i, i < r → n + i < 40 ∧ y i ≤ fre G f0 y i) ∧ (r < m → ¬ (n + r < 40 ∧ y r ≤ fre G f0 y r))
theorem room_ex (G f0 : Int) (n : Nat) (y : Nat → Int) : ∀ m, ∃ r, IsRoom G f0 n m y r
  | 0 => ⟨0, Nat.le_refl _, fun i hi => absurd hi (by omega), fun h => absurd h (by omega)⟩
  | m + 1 => by
    obtain ⟨r, h1, h2, h3⟩ := room_ex G f0 n y m
    by_cases e : r < m
    · exact ⟨r, by omega, h2, fun _ => h3 e⟩
    · obtain rfl : r = m := by omega
      by_cases hc : n + r < 40 ∧ y r ≤ fre G f0 y r
      · refine ⟨r + 1, Nat.le_refl _, fun i hi => ?_, fun h => absurd h (by omega)⟩
        by_cases ei : i = r
        · subst ei; exact hc
        · exact h2 i (by omega)
      · exact ⟨r, by omega, h2, fun _ => hc⟩
noncomputable def rmR (G f0 : Int) (n m : Nat) (y : Nat → Int) : Nat := Classical.choose (room_ex G f0 n y m)
theorem rmR_is (G f0 : Int) (n m : Nat) (y : Nat → Int) : IsRoom G f0 n m y (rmR G f0 n m y) := Classical.choose_spec (room_ex G f0 n y m)
theorem IsRoom.uniq {G f0 : Int} {n m : Nat} {y : Nat → Int} {r r' : Nat} (h : IsRoom G f0 n m y r) (h' : IsRoom G f0 n m y r') : r = r' := by
  rcases Nat.lt_trichotomy r r' with e | e | e
  · exact absurd (h'.2.1 r e) (h.2.2 (by have := h'.1; omega))
  · exact e
  · exact absurd (h.2.1 r' e) (h'.2.2 (by have := h.1; omega))
/-- All sizes are as they may be. -/
def szP (m : Nat) (y : Nat → Int) : Prop := ∀ i, i < m → 1 ≤ y i ∧ y i ≤ 60
open Classical in
/-- What RoomFor tells. -/
noncomputable def rmB (L G : Int) (n : Nat) (z : Nat → Int) (m : Nat) (y : Nat → Int) : Int :=
  if OkP L G n z ∧ szP m y then (rmR G (tg L G z n) n m y : Nat) else -1
theorem rmB_no {L G : Int} {n : Nat} {z : Nat → Int} {m : Nat} {y : Nat → Int} (h : ¬ (OkP L G n z ∧ szP m y)) : rmB L G n z m y = -1 := if_neg h
theorem rmB_at {L G : Int} {n : Nat} {z : Nat → Int} {m : Nat} {y : Nat → Int} {r : Nat} (h : OkP L G n z) (hs : szP m y) (hr : IsRoom G (tg L G z n) n m y r) : rmB L G n z m y = (r : Int) := by
  unfold rmB
  rw [if_pos ⟨h, hs⟩, IsRoom.uniq hr (rmR_is _ _ _ _ _)]

end Go.Proofs.Ytobcgidakbbhpab
