/- Belts in plain words: n items, item k of which is the numbers z (k * 3), z (k * 3 + 1), z (k * 3 + 2): its bag, its front and its length. -/
import Derived.ProofKit
import Derived.PlainAid
namespace Go.Proofs.Ytlklggkkkbamhaa

/-- How far item k may come: L for the first one. -/
def lim (L G : Int) (z : Nat → Int) : Nat → Int
  | 0 => L
  | k + 1 => z (k * 3 + 1) - z (k * 3 + 2) - G
/-- Item k is as it may be. -/
def okIt (L G : Int) (z : Nat → Int) (k : Nat) : Prop :=
  1 ≤ z (k * 3) ∧ (∀ j, j < k → z (j * 3) ≠ z (k * 3)) ∧ 1 ≤ z (k * 3 + 2) ∧ z (k * 3 + 2) ≤ 60 ∧ z (k * 3 + 2) ≤ z (k * 3 + 1) ∧ z (k * 3 + 1) ≤ lim L G z k
def OkP (L G : Int) (n : Nat) (z : Nat → Int) : Prop := (1 ≤ L ∧ L ≤ 400) ∧ (0 ≤ G ∧ G ≤ 20) ∧ n ≤ 40 ∧ ∀ k, k < n → okIt L G z k
open Classical in
noncomputable def okB (L G : Int) (n : Nat) (z : Nat → Int) : Bool := decide (OkP L G n z)
theorem okB_yes {L G : Int} {n : Nat} {z : Nat → Int} (h : OkP L G n z) : okB L G n z = true := by simp [okB, h]
theorem okB_no {L G : Int} {n : Nat} {z : Nat → Int} (h : ¬ OkP L G n z) : okB L G n z = false := by simp [okB, h]
theorem okB_iff {L G : Int} {n : Nat} {z : Nat → Int} : okB L G n z = true ↔ OkP L G n z := by simp [okB]
theorem okB_not {L G : Int} {n : Nat} {z : Nat → Int} : okB L G n z = false ↔ ¬ OkP L G n z := by simp [okB]
/-- The first k are: nothing stands beyond the belt. -/
theorem lim_le {L G : Int} {z : Nat → Int} (hG : 0 ≤ G) : ∀ k, (∀ i, i < k → okIt L G z i) → lim L G z k ≤ L
  | 0, _ => Int.le_refl _
  | k + 1, h => by
    have h1 := lim_le hG k (fun i hi => h i (by omega))
    obtain ⟨_, _, h2, _, _, h3⟩ := h k (by omega)
    show z (k * 3 + 1) - z (k * 3 + 2) - G ≤ L
    omega
theorem okIt_le {L G : Int} {z : Nat → Int} (hG : 0 ≤ G) {k : Nat} (h : ∀ i, i < k + 1 → okIt L G z i) : z (k * 3 + 1) ≤ L := by
  have h1 := lim_le hG k (fun i hi => h i (by omega))
  have h2 := (h k (by omega)).2.2.2.2.2
  omega
theorem OkP.front {L G : Int} {n : Nat} {z : Nat → Int} (h : OkP L G n z) {k : Nat} (hk : k < n) : 1 ≤ z (k * 3) ∧ 1 ≤ z (k * 3 + 2) ∧ z (k * 3 + 2) ≤ 60 ∧ z (k * 3 + 2) ≤ z (k * 3 + 1) ∧ z (k * 3 + 1) ≤ L ∧ z (k * 3 + 1) ≤ 400 := by
  have h1 := okIt_le h.2.1.1 (k := k) (fun i hi => h.2.2.2 i (by omega))
  have h2 := h.2.2.2 k hk
  exact ⟨h2.1, h2.2.2.1, h2.2.2.2.1, h2.2.2.2.2.1, h1, by have := h.1.2; omega⟩
theorem lim_lo {L G : Int} {n : Nat} {z : Nat → Int} (h : OkP L G n z) {k : Nat} (hk : k ≤ n) : -20 ≤ lim L G z k ∧ lim L G z k ≤ 400 := by
  have h1 := lim_le h.2.1.1 k (fun i hi => h.2.2.2 i (by omega))
  refine ⟨?_, by have := h.1.2; omega⟩
  match k, hk with
  | 0, _ => show -20 ≤ L; have := h.1.1; omega
  | k + 1, hk =>
    obtain ⟨_, a, b, c, d, e⟩ := h.front (k := k) (by omega)
    show -20 ≤ z (k * 3 + 1) - z (k * 3 + 2) - G
    have := h.2.1.2
    omega

/-! One step. -/
def adv (f m : Int) : Int := if f < m then f + 1 else f
def stF (L G : Int) (z : Nat → Int) : Nat → Int
  | 0 => adv (z 1) L
  | k + 1 => adv (z ((k + 1) * 3 + 1)) (stF L G z k - z (k * 3 + 2) - G)
def stZ (L G : Int) (z : Nat → Int) : Nat → Int := fun j => if j % 3 = 1 then stF L G z (j / 3) else z j
theorem stZ_bag {L G : Int} {z : Nat → Int} (k : Nat) : stZ L G z (k * 3) = z (k * 3) := if_neg (by omega)
theorem stZ_len {L G : Int} {z : Nat → Int} (k : Nat) : stZ L G z (k * 3 + 2) = z (k * 3 + 2) := if_neg (by omega)
theorem stZ_front {L G : Int} {z : Nat → Int} (k : Nat) : stZ L G z (k * 3 + 1) = stF L G z k := by
  unfold stZ
  rw [if_pos (by omega), show (k * 3 + 1) / 3 = k by omega]
theorem adv_ge (f m : Int) : f ≤ adv f m := by unfold adv; split <;> omega
theorem adv_le {f m : Int} (h : f ≤ m) : adv f m ≤ m := by unfold adv; split <;> omega
theorem stF_ge {L G : Int} {z : Nat → Int} (k : Nat) : z (k * 3 + 1) ≤ stF L G z k := by
  cases k <;> exact adv_ge _ _
theorem stF_eq {L G : Int} {z : Nat → Int} (k : Nat) : stF L G z k = adv (z (k * 3 + 1)) (lim L G (stZ L G z) k) := by
  cases k with
  | zero => rfl
  | succ k => show adv _ _ = adv _ (stZ L G z (k * 3 + 1) - stZ L G z (k * 3 + 2) - G); rw [stZ_front, stZ_len]
theorem lim_mono {L G : Int} {z : Nat → Int} (k : Nat) : lim L G z k ≤ lim L G (stZ L G z) k := by
  cases k with
  | zero => exact Int.le_refl _
  | succ k =>
    show z (k * 3 + 1) - z (k * 3 + 2) - G ≤ stZ L G z (k * 3 + 1) - stZ L G z (k * 3 + 2) - G
    rw [stZ_front, stZ_len]
    have := stF_ge (L := L) (G := G) (z := z) k
    omega
theorem okIt_step {L G : Int} {z : Nat → Int} {k : Nat} (h : okIt L G z k) : okIt L G (stZ L G z) k := by
  obtain ⟨a, b, c, d, e, f⟩ := h
  refine ⟨by rw [stZ_bag]; exact a, fun j hj => by rw [stZ_bag, stZ_bag]; exact b j hj, by rw [stZ_len]; exact c, by rw [stZ_len]; exact d, ?_, ?_⟩
  · rw [stZ_len, stZ_front]; exact Int.le_trans e (stF_ge k)
  · rw [stZ_front, stF_eq]; exact adv_le (Int.le_trans f (lim_mono k))
theorem OkP.step {L G : Int} {n : Nat} {z : Nat → Int} (h : OkP L G n z) : OkP L G n (stZ L G z) := ⟨h.1, h.2.1, h.2.2.1, fun k hk => okIt_step (h.2.2.2 k hk)⟩
def mvZ (L G : Int) : Nat → (Nat → Int) → (Nat → Int)
  | 0, z => z
  | s + 1, z => stZ L G (mvZ L G s z)
theorem OkP.move {L G : Int} {n : Nat} {z : Nat → Int} (h : OkP L G n z) : ∀ s, OkP L G n (mvZ L G s z)
  | 0 => h
  | s + 1 => (h.move s).step
theorem mvZ_add (L G : Int) (s t : Nat) (z : Nat → Int) : mvZ L G t (mvZ L G s z) = mvZ L G (s + t) z := by
  induction t with
  | zero => rfl
  | succ t ih => show stZ L G _ = stZ L G (mvZ L G (s + t) z); rw [ih]

/-! Leaving. -/
def shZ (z : Nat → Int) : Nat → Int := fun j => z (j + 3)
theorem okIt_shift {L G : Int} {n : Nat} {z : Nat → Int} (h : OkP L G (n + 1) z) : OkP L G n (shZ z) := by
  refine ⟨h.1, h.2.1, by have := h.2.2.1; omega, fun k hk => ?_⟩
  obtain ⟨a, b, c, d, e, f⟩ := h.2.2.2 (k + 1) (by omega)
  have e0 : (k + 1) * 3 = k * 3 + 3 := by omega
  rw [e0] at a b c d e f
  refine ⟨a, fun j hj => ?_, c, d, e, ?_⟩
  · have := b (j + 1) (by omega)
    rw [show (j + 1) * 3 = j * 3 + 3 by omega] at this
    exact this
  · cases k with
    | zero =>
      have := h.front (k := 0) (by omega)
      show z 4 ≤ L
      have f' : z 4 ≤ z (0 * 3 + 1) - z (0 * 3 + 2) - G := f
      have := h.2.1.1
      omega
    | succ k =>
      have f' : z ((k + 1) * 3 + 3 + 1) ≤ z ((k + 1) * 3 + 1) - z ((k + 1) * 3 + 2) - G := f
      show z ((k + 1) * 3 + 1 + 3) ≤ z (k * 3 + 1 + 3) - z (k * 3 + 2 + 3) - G
      rw [show (k + 1) * 3 + 1 + 3 = (k + 1) * 3 + 3 + 1 by omega, show k * 3 + 1 + 3 = (k + 1) * 3 + 1 by omega, show k * 3 + 2 + 3 = (k + 1) * 3 + 2 by omega]
      exact f'

end Go.Proofs.Ytlklggkkkbamhaa
