/- Images in plain words: image k is the numbers z (k * 2), z (k * 2 + 1): when it comes and how long it is looked at; f are the times from which the operators are free. -/
import Derived.ProofKit
namespace Go.Proofs.Ytkdlhapbbnggoaa

/-- The time of the image before number k; 0 for the first one. -/
def prA (z : Nat → Int) : Nat → Int
  | 0 => 0
  | k + 1 => z (k * 2)
def okI (z : Nat → Int) (k : Nat) : Prop := (prA z k ≤ z (k * 2) ∧ z (k * 2) ≤ 100000) ∧ (1 ≤ z (k * 2 + 1) ∧ z (k * 2 + 1) ≤ 5000)
def ImP (n : Nat) (z : Nat → Int) : Prop := n ≤ 16 ∧ ∀ k, k < n → okI z k
open Classical in
noncomputable def imB (n : Nat) (z : Nat → Int) : Bool := decide (ImP n z)
theorem imB_yes {n : Nat} {z : Nat → Int} (h : ImP n z) : imB n z = true := by simp [imB, h]
theorem imB_no {n : Nat} {z : Nat → Int} (h : ¬ ImP n z) : imB n z = false := by simp [imB, h]
theorem imB_iff {n : Nat} {z : Nat → Int} : imB n z = true ↔ ImP n z := by simp [imB]
theorem imB_not {n : Nat} {z : Nat → Int} : imB n z = false ↔ ¬ ImP n z := by simp [imB]
theorem prA_lo {z : Nat → Int} : ∀ k, (∀ i, i < k → okI z i) → 0 ≤ prA z k
  | 0, _ => Int.le_refl _
  | k + 1, h => by
    have h1 := prA_lo k (fun i hi => h i (by omega))
    have h2 := (h k (by omega)).1.1
    show 0 ≤ z (k * 2)
    omega
theorem ImP.at {n : Nat} {z : Nat → Int} (h : ImP n z) {k : Nat} (hk : k < n) : 0 ≤ z (k * 2) ∧ z (k * 2) ≤ 100000 ∧ 1 ≤ z (k * 2 + 1) ∧ z (k * 2 + 1) ≤ 5000 := by
  have h1 := prA_lo k (fun i hi => h.2 i (by omega))
  have h2 := h.2 k hk
  have := h2.1.1
  exact ⟨by omega, h2.1.2, h2.2.1, h2.2.2⟩

/-- The first one of the least of the first k. -/
def whoK (f : Nat → Int) : Nat → Nat
  | 0 => 0
  | k + 1 => if f k < f (whoK f k) then k else whoK f k
theorem whoK_lt {f : Nat → Int} : ∀ k, whoK f (k + 1) < k + 1
  | 0 => by unfold whoK; split <;> simp [whoK]
  | k + 1 => by
    have h := whoK_lt (f := f) k
    show (if f (k + 1) < f (whoK f (k + 1)) then k + 1 else whoK f (k + 1)) < k + 2
    split <;> omega
theorem whoK_lt' {f : Nat → Int} {m : Nat} (h : 0 < m) : whoK f m < m := by
  obtain ⟨k, rfl⟩ : ∃ k, m = k + 1 := ⟨m - 1, by omega⟩
  exact whoK_lt k
theorem whoK_le {f : Nat → Int} : ∀ k j, j < k → f (whoK f k) ≤ f j
  | 0, j, h => absurd h (by omega)
  | k + 1, j, h => by
    have ih := whoK_le (f := f) k
    show f (if f k < f (whoK f k) then k else whoK f k) ≤ f j
    by_cases e : j = k
    · subst e; split <;> omega
    · have := ih j (by omega); split <;> omega
theorem whoK_first {f : Nat → Int} : ∀ k j, j < whoK f k → f (whoK f k) < f j
  | 0, j, h => absurd h (by simp [whoK])
  | k + 1, j, h => by
    have ih := whoK_first (f := f) k
    have h' : j < (if f k < f (whoK f k) then k else whoK f k) := h
    show f (if f k < f (whoK f k) then k else whoK f k) < f j
    by_cases c : f k < f (whoK f k)
    · rw [if_pos c] at h' ⊢
      have := whoK_le (f := f) k j h'
      omega
    · rw [if_neg c] at h' ⊢
      exact ih j h'
/-- It is the one place that holds the least value, no earlier one doing so. -/
theorem whoK_only {f : Nat → Int} {m i : Nat} (h1 : f i = f (whoK f m)) (h2 : ∀ j, j < i → f j ≠ f (whoK f m)) : i = whoK f m := by
  rcases Nat.lt_trichotomy i (whoK f m) with h | h | h
  · have := whoK_first m i h; omega
  · exact h
  · exact absurd rfl (h2 _ h)

def beg (a x : Int) : Int := if x ≤ a then a else x
theorem beg_max (a x : Int) : beg a x = max x a := by unfold beg; split <;> omega
/-- The times from which the operators are free when k images have come. -/
def svF (t : Int) (m : Nat) (z : Nat → Int) : Nat → Nat → Int
  | 0 => fun _ => 0
  | k + 1 => fun j => if z (k * 2) + t < beg (z (k * 2)) (svF t m z k (whoK (svF t m z k) m)) then svF t m z k j
      else if j = whoK (svF t m z k) m then beg (z (k * 2)) (svF t m z k (whoK (svF t m z k) m)) + z (k * 2 + 1) else svF t m z k j
/-- When the first operator can begin with image k. -/
def svB (t : Int) (m : Nat) (z : Nat → Int) (k : Nat) : Int := beg (z (k * 2)) (svF t m z k (whoK (svF t m z k) m))
/-- What Serve tells of image k. -/
def svO (t : Int) (m : Nat) (z : Nat → Int) (k : Nat) : Int := if z (k * 2) + t < svB t m z k then -1 else svB t m z k
theorem svF_drop {t : Int} {m : Nat} {z : Nat → Int} {k : Nat} (h : z (k * 2) + t < svB t m z k) : svF t m z (k + 1) = svF t m z k := by
  funext j
  exact if_pos h
theorem svF_take {t : Int} {m : Nat} {z : Nat → Int} {k : Nat} (h : ¬ z (k * 2) + t < svB t m z k) (j : Nat) : svF t m z (k + 1) j = if j = whoK (svF t m z k) m then svB t m z k + z (k * 2 + 1) else svF t m z k j := if_neg h
theorem svO_drop {t : Int} {m : Nat} {z : Nat → Int} {k : Nat} (h : z (k * 2) + t < svB t m z k) : svO t m z k = -1 := if_pos h
theorem svO_take {t : Int} {m : Nat} {z : Nat → Int} {k : Nat} (h : ¬ z (k * 2) + t < svB t m z k) : svO t m z k = svB t m z k := if_neg h
theorem svB_ge {t : Int} {m : Nat} {z : Nat → Int} (k : Nat) : z (k * 2) ≤ svB t m z k := by unfold svB beg; split <;> omega
theorem svF_range {t : Int} (ht : t ≤ 5000) {m n : Nat} {z : Nat → Int} (h : ImP n z) : ∀ k, k ≤ n → ∀ j, 0 ≤ svF t m z k j ∧ svF t m z k j ≤ 110000
  | 0, _, j => ⟨Int.le_refl _, by show (0 : Int) ≤ 110000; omega⟩
  | k + 1, hk, j => by
    have ih := svF_range ht (m := m) h k (by omega) j
    obtain ⟨a, b, c, d⟩ := h.at (k := k) (by omega)
    by_cases e : z (k * 2) + t < svB t m z k
    · rw [svF_drop e]; exact ih
    · rw [svF_take e]
      have := svB_ge (t := t) (m := m) (z := z) k
      split <;> omega
theorem svB_range {t : Int} (ht : t ≤ 5000) {m n : Nat} {z : Nat → Int} (h : ImP n z) {k : Nat} (hk : k < n) : 0 ≤ svB t m z k ∧ svB t m z k ≤ 110000 := by
  obtain ⟨a, b, c, d⟩ := h.at (k := k) hk
  have := svF_range ht (m := m) h k (by omega) (whoK (svF t m z k) m)
  unfold svB beg
  split <;> omega
theorem svO_range {t : Int} (ht : t ≤ 5000) {m n : Nat} {z : Nat → Int} (h : ImP n z) {k : Nat} (hk : k < n) : -1 ≤ svO t m z k ∧ svO t m z k ≤ 110000 := by
  have := svB_range ht (m := m) h hk
  unfold svO
  split <;> omega

/-- What Serve, Dropped are asked of. -/
def SvP (n : Nat) (z : Nat → Int) (t s : Int) : Prop := ImP n z ∧ (0 ≤ t ∧ t ≤ 5000) ∧ (1 ≤ s ∧ s ≤ 16)
open Classical in
noncomputable def svOk (n : Nat) (z : Nat → Int) (t s : Int) : Bool := decide (SvP n z t s)
theorem svOk_yes {n : Nat} {z : Nat → Int} {t s : Int} (h : SvP n z t s) : svOk n z t s = true := by simp [svOk, h]
theorem svOk_no {n : Nat} {z : Nat → Int} {t s : Int} (h : ¬ SvP n z t s) : svOk n z t s = false := by simp [svOk, h]
open Classical in
/-- How many numbers Serve returns. -/
noncomputable def svN (n : Nat) (z : Nat → Int) (t s : Int) : Nat := if SvP n z t s then n else 0
theorem svN_le (n : Nat) (z : Nat → Int) (t s : Int) : svN n z t s ≤ 16 := by
  unfold svN
  split
  · rename_i h; exact h.1.1
  · omega

/-- How many of the first k are dropped. -/
def drK (t : Int) (m : Nat) (z : Nat → Int) : Nat → Nat
  | 0 => 0
  | k + 1 => drK t m z k + if svO t m z k = -1 then 1 else 0
theorem drK_le {t : Int} {m : Nat} {z : Nat → Int} : ∀ k, drK t m z k ≤ k
  | 0 => Nat.le_refl _
  | k + 1 => by have := drK_le (t := t) (m := m) (z := z) k; show drK t m z k + _ ≤ _; split <;> omega
open Classical in
noncomputable def drI (n : Nat) (z : Nat → Int) (t s : Int) : Int := if SvP n z t s then (drK t s.toNat z n : Int) else -1
theorem drI_yes {n : Nat} {z : Nat → Int} {t s : Int} (h : SvP n z t s) : drI n z t s = (drK t s.toNat z n : Int) := if_pos h
theorem drI_no {n : Nat} {z : Nat → Int} {t s : Int} (h : ¬ SvP n z t s) : drI n z t s = -1 := if_neg h

/-- Behind k images the operators from number k on have looked at none. -/
theorem svF_idle {t : Int} (ht : t ≤ 5000) {m n : Nat} {z : Nat → Int} (h : ImP n z) : ∀ k, k ≤ n → ∀ j, k ≤ j → svF t m z k j = 0
  | 0, _, _, _ => rfl
  | k + 1, hk, j, hj => by
    have ih := svF_idle ht (m := m) h k (by omega)
    by_cases e : z (k * 2) + t < svB t m z k
    · rw [svF_drop e]
      exact ih j (by omega)
    · have hw : whoK (svF t m z k) m ≤ k := by
        refine Nat.le_of_not_lt fun hlt => ?_
        have h1 := whoK_first m k hlt
        have h2 := ih k (Nat.le_refl _)
        have h3 := (svF_range ht (m := m) h k (by omega) (whoK (svF t m z k) m)).1
        omega
      rw [svF_take e, if_neg (by omega)]
      exact ih j (by omega)
theorem no_drop {t : Int} (ht : 0 ≤ t) (ht5 : t ≤ 5000) {m n : Nat} {z : Nat → Int} (h : ImP n z) {k : Nat} (hk : k < n) (hm : k < m) : svO t m z k ≠ -1 := by
  have h0 := svF_idle ht5 (m := m) h k (by omega) k (Nat.le_refl _)
  have h1 := whoK_le (f := svF t m z k) m k hm
  obtain ⟨a, b, c, d⟩ := h.at hk
  have h3 : svB t m z k = z (k * 2) := by unfold svB beg; split <;> omega
  unfold svO
  rw [h3, if_neg (by omega)]
  omega
theorem drK_zero {t : Int} (ht : 0 ≤ t) (ht5 : t ≤ 5000) {m n : Nat} {z : Nat → Int} (h : ImP n z) (hm : n ≤ m) : drK t m z n = 0 := by
  have key : ∀ k, k ≤ n → drK t m z k = 0 := by
    intro k
    induction k with
    | zero => intro _; rfl
    | succ k ih =>
      intro hk
      show drK t m z k + _ = 0
      rw [ih (by omega), if_neg (no_drop ht ht5 h (by omega) (by omega))]
  exact key n (Nat.le_refl _)

/-- The least number from s on, among f + 1, with which none is dropped. -/
def lsF (g : Int → Int) : Nat → Int → Int
  | 0, s => s
  | f + 1, s => if g s = 0 then s else lsF g f (s + 1)
open Classical in
noncomputable def lsI (n : Nat) (z : Nat → Int) (t : Int) : Int := if SvP n z t 16 then lsF (drI n z t) 16 1 else -1
theorem SvP.staff {n : Nat} {z : Nat → Int} {t s s' : Int} (h : SvP n z t s) (h1 : 1 ≤ s') (h2 : s' ≤ 16) : SvP n z t s' := ⟨h.1, h.2.1, h1, h2⟩
theorem drI_16 {n : Nat} {z : Nat → Int} {t : Int} (h : SvP n z t 16) : drI n z t 16 = 0 := by
  rw [drI_yes h, show (16 : Int).toNat = 16 from rfl, drK_zero h.2.1.1 h.2.1.2 h.1 h.1.1]; rfl
theorem drI_ge {n : Nat} {z : Nat → Int} {t s : Int} (h : SvP n z t s) : 0 ≤ drI n z t s := by rw [drI_yes h]; omega
theorem lsF_at {g : Int → Int} : ∀ (f : Nat) (s r : Int), s ≤ r → r < s + f → g r = 0 → (∀ x, s ≤ x → x < r → g x ≠ 0) → lsF g f s = r
  | 0, s, r, h1, h2, _, _ => by omega
  | f + 1, s, r, h1, h2, h3, h4 => by
    show (if g s = 0 then s else lsF g f (s + 1)) = r
    by_cases e : s = r
    · subst e; rw [if_pos h3]
    · rw [if_neg (h4 s (by omega) (by omega))]
      exact lsF_at f (s + 1) r (by omega) (by omega) h3 (fun x hx => h4 x (by omega))
/-- A number from 1 on with which none is dropped, though some are with each lesser one, is the least. -/
theorem lsI_at {n : Nat} {z : Nat → Int} {t r : Int} (h : SvP n z t 16) (h1 : 1 ≤ r) (h2 : r ≤ 16) (h3 : drI n z t r = 0) (h4 : ∀ x, 1 ≤ x → x < r → drI n z t x ≠ 0) : lsI n z t = r := by
  unfold lsI
  rw [if_pos h]
  exact lsF_at 16 1 r h1 (by omega) h3 h4
theorem lsI_no {n : Nat} {z : Nat → Int} {t : Int} (h : ¬ SvP n z t 16) : lsI n z t = -1 := if_neg h

end Go.Proofs.Ytkdlhapbbnggoaa
