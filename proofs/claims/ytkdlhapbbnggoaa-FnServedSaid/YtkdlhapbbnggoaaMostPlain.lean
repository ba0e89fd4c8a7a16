/- Choices of images in plain words: the images whose bits are set in a number, and how many of them are served at most. -/
import Derived.Test.YtkdlhapbbnggoaaSrvPlain
namespace Go.Proofs.Ytkdlhapbbnggoaa

/-- How many of the first k are chosen. -/
def pkN (set : Nat) : Nat → Nat
  | 0 => 0
  | k + 1 => if set / 2 ^ k % 2 = 1 then pkN set k + 1 else pkN set k
def pkZ (set : Nat) (z : Nat → Int) : Nat → Nat → Int
  | 0 => fun _ => 0
  | k + 1 => if set / 2 ^ k % 2 = 1 then fun j => if j = pkN set k * 2 then z (k * 2) else if j = pkN set k * 2 + 1 then z (k * 2 + 1) else pkZ set z k j else pkZ set z k
theorem pkN_yes {set k : Nat} (h : set / 2 ^ k % 2 = 1) : pkN set (k + 1) = pkN set k + 1 := if_pos h
theorem pkN_no {set k : Nat} (h : ¬ set / 2 ^ k % 2 = 1) : pkN set (k + 1) = pkN set k := if_neg h
theorem pkZ_yes {set k : Nat} {z : Nat → Int} (h : set / 2 ^ k % 2 = 1) (j : Nat) : pkZ set z (k + 1) j = if j = pkN set k * 2 then z (k * 2) else if j = pkN set k * 2 + 1 then z (k * 2 + 1) else pkZ set z k j := by
  have h2 : pkZ set z (k + 1) = fun j => if j = pkN set k * 2 then z (k * 2) else if j = pkN set k * 2 + 1 then z (k * 2 + 1) else pkZ set z k j := if_pos h
  rw [h2]
theorem pkZ_no {set k : Nat} {z : Nat → Int} (h : ¬ set / 2 ^ k % 2 = 1) : pkZ set z (k + 1) = pkZ set z k := if_neg h
theorem pkN_le {set : Nat} : ∀ k, pkN set k ≤ k
  | 0 => Nat.le_refl _
  | k + 1 => by
    have := pkN_le (set := set) k
    by_cases c : set / 2 ^ k % 2 = 1
    · rw [pkN_yes c]; omega
    · rw [pkN_no c]; omega
theorem okI_congr {z z' : Nat → Int} {k : Nat} (h : ∀ j, j < k * 2 + 2 → z j = z' j) (hk : okI z k) : okI z' k := by
  have e : prA z k = prA z' k := by
    cases k with
    | zero => rfl
    | succ k => exact h (k * 2) (by omega)
  unfold okI at hk ⊢
  rw [← h (k * 2) (by omega), ← h (k * 2 + 1) (by omega), ← e]
  exact hk
theorem pk_ok {set : Nat} {n : Nat} {z : Nat → Int} (h : ImP n z) : ∀ k, k ≤ n → (∀ i, i < pkN set k → okI (pkZ set z k) i) ∧ prA (pkZ set z k) (pkN set k) ≤ prA z k
  | 0, _ => ⟨fun i hi => absurd hi (by simp [pkN]), Int.le_refl _⟩
  | k + 1, hk => by
    obtain ⟨h1, h2⟩ := pk_ok h k (by omega)
    have h3 := h.2 k (by omega)
    by_cases c : set / 2 ^ k % 2 = 1
    · rw [pkN_yes c]
      have hsame : ∀ j, j < pkN set k * 2 → pkZ set z k j = pkZ set z (k + 1) j := fun j hj => by rw [pkZ_yes c, if_neg (by omega), if_neg (by omega)]
      have e0 : pkZ set z (k + 1) (pkN set k * 2) = z (k * 2) := by rw [pkZ_yes c, if_pos rfl]
      have e1 : pkZ set z (k + 1) (pkN set k * 2 + 1) = z (k * 2 + 1) := by rw [pkZ_yes c, if_neg (by omega), if_pos rfl]
      refine ⟨fun i hi => ?_, ?_⟩
      · by_cases e : i = pkN set k
        · subst e
          have e2 : prA (pkZ set z (k + 1)) (pkN set k) = prA (pkZ set z k) (pkN set k) := by
            obtain ⟨q, hq⟩ : ∃ q, q = pkN set k := ⟨_, rfl⟩
            rw [← hq] at hsame ⊢
            cases q with
            | zero => rfl
            | succ q => exact (hsame (q * 2) (by omega)).symm
          unfold okI
          rw [e0, e1, e2]
          exact ⟨⟨Int.le_trans h2 h3.1.1, h3.1.2⟩, h3.2⟩
        · exact okI_congr (fun j hj => hsame j (by omega)) (h1 i (by omega))
      · show pkZ set z (k + 1) (pkN set k * 2) ≤ z (k * 2)
        rw [e0]
        exact Int.le_refl _
    · rw [pkN_no c, pkZ_no c]
      refine ⟨h1, ?_⟩
      have h4 := h3.1.1
      show prA (pkZ set z k) (pkN set k) ≤ z (k * 2)
      omega
theorem pk_ImP {set n : Nat} {z : Nat → Int} (h : ImP n z) : ImP (pkN set n) (pkZ set z n) := ⟨Nat.le_trans (pkN_le n) h.1, (pk_ok h n (Nat.le_refl _)).1⟩

/-- The most that are chosen by a number below s so that none is dropped. -/
def msK (n : Nat) (z : Nat → Int) (t : Int) (m : Nat) : Nat → Nat
  | 0 => 0
  | s + 1 => if drK t m (pkZ s z n) (pkN s n) = 0 ∧ msK n z t m s < pkN s n then pkN s n else msK n z t m s
theorem msK_le {n : Nat} {z : Nat → Int} {t : Int} {m : Nat} : ∀ s, msK n z t m s ≤ n
  | 0 => Nat.zero_le _
  | s + 1 => by have := msK_le (n := n) (z := z) (t := t) (m := m) s; have := pkN_le (set := s) n; show (if _ then _ else _) ≤ _; split <;> omega
theorem msK_ge {n : Nat} {z : Nat → Int} {t : Int} {m : Nat} : ∀ s x, x < s → drK t m (pkZ x z n) (pkN x n) = 0 → pkN x n ≤ msK n z t m s
  | 0, x, h, _ => absurd h (by omega)
  | s + 1, x, h, hd => by
    have ih := msK_ge (n := n) (z := z) (t := t) (m := m) s
    show _ ≤ (if _ then _ else _)
    by_cases e : x = s
    · subst e
      by_cases c : msK n z t m x < pkN x n
      · rw [if_pos ⟨hd, c⟩]; exact Nat.le_refl _
      · rw [if_neg (fun h => c h.2)]; omega
    · have := ih x (by omega) hd
      split
      · rename_i h; omega
      · exact this
open Classical in
noncomputable def msI (n : Nat) (z : Nat → Int) (t s : Int) : Int := if SvP n z t s ∧ n ≤ 10 then (msK n z t s.toNat (2 ^ n) : Int) else -1
theorem msI_yes {n : Nat} {z : Nat → Int} {t s : Int} (h : SvP n z t s) (hn : n ≤ 10) : msI n z t s = (msK n z t s.toNat (2 ^ n) : Int) := if_pos ⟨h, hn⟩
theorem msI_no {n : Nat} {z : Nat → Int} {t s : Int} (h : ¬ (SvP n z t s ∧ n ≤ 10)) : msI n z t s = -1 := if_neg h
theorem SvP.pk {n : Nat} {z : Nat → Int} {t s : Int} (h : SvP n z t s) (set : Nat) : SvP (pkN set n) (pkZ set z n) t s := ⟨pk_ImP h.1, h.2⟩

end Go.Proofs.Ytkdlhapbbnggoaa
