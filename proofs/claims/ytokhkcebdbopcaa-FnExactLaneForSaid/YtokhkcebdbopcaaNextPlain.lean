/- The bag that is to go next, and the buried ones, in plain words. -/
import Derived.Test.YtokhkcebdbopcaaLanePlain
namespace Go.Proofs.Ytokhkcebdbopcaa

/-- One step of the search for the least time, of several for the least bag: the best so far (time, bag). -/
def nxS (b : Int × Int) (bag time : Int) : Int × Int := if time < b.1 ∨ (time = b.1 ∧ bag < b.2) then (time, bag) else b
def nxR (b : Int × Int) (x : Nat → Int) : Nat → Int × Int
  | 0 => b
  | k + 1 => nxS (nxR b x k) (x (k * 2)) (x (k * 2 + 1))
def nxL (nn : Nat → Nat) (xx : Nat → Nat → Int) : Nat → Int × Int
  | 0 => (100001, 0)
  | n + 1 => nxR (nxL nn xx n) (xx n) (nn n)
def nxB (D : Int) (n : Nat) (nn : Nat → Nat) (xx : Nat → Nat → Int) : Int := if stO D n nn xx then (nxL nn xx n).2 else 0
/-- All elements behind one another: two numbers each. -/
def allL (nn : Nat → Nat) (xx : Nat → Nat → Int) : Nat → List Int
  | 0 => []
  | n + 1 => allL nn xx n ++ (List.range (nn n * 2)).map (xx n)
def totL (nn : Nat → Nat) : Nat → Nat
  | 0 => 0
  | n + 1 => totL nn n + nn n
theorem allL_len (nn : Nat → Nat) (xx : Nat → Nat → Int) : ∀ n, (allL nn xx n).length = totL nn n * 2
  | 0 => rfl
  | n + 1 => by
    show (allL nn xx n ++ _).length = (totL nn n + nn n) * 2
    rw [List.length_append, allL_len nn xx n]
    simp
    omega
theorem nxR_congr {b : Int × Int} {x y : Nat → Int} {k : Nat} (h : ∀ j, j < k * 2 → x j = y j) : nxR b x k = nxR b y k := by
  induction k with
  | zero => rfl
  | succ k ih =>
    show nxS _ _ _ = nxS _ _ _
    rw [ih (fun j hj => h j (by omega)), h (k * 2) (by omega), h (k * 2 + 1) (by omega)]
theorem nxR_add (b : Int × Int) (x y : Nat → Int) (m : Nat) : ∀ k, (∀ j, j < k * 2 → x (m * 2 + j) = y j) → nxR b x (m + k) = nxR (nxR b x m) y k
  | 0, _ => rfl
  | k + 1, h => by
    have ih := nxR_add b x y m k (fun j hj => h j (by omega))
    show nxS (nxR b x (m + k)) (x ((m + k) * 2)) (x ((m + k) * 2 + 1)) = nxS _ _ _
    rw [ih, ← h (k * 2) (by omega), ← h (k * 2 + 1) (by omega), show (m + k) * 2 = m * 2 + k * 2 by omega, show m * 2 + k * 2 + 1 = m * 2 + (k * 2 + 1) by omega]
/-- Along the one row the search ends where it ends along the lanes. -/
theorem nx_all (nn : Nat → Nat) (xx : Nat → Nat → Int) : ∀ n, nxR (100001, 0) (fun j => (allL nn xx n).getD j 0) (totL nn n) = nxL nn xx n
  | 0 => rfl
  | n + 1 => by
    have ih := nx_all nn xx n
    have hlen := allL_len nn xx n
    show nxR _ _ (totL nn n + nn n) = nxR (nxL nn xx n) (xx n) (nn n)
    rw [nxR_add (100001, 0) _ (xx n) (totL nn n) (nn n) (fun j hj => ?_), ← ih]
    · congr 1
      refine nxR_congr fun j hj => ?_
      show (allL nn xx n ++ _).getD j 0 = _
      rw [List.getD_eq_getElem?_getD, List.getElem?_append_left (by omega), ← List.getD_eq_getElem?_getD]
    · show (allL nn xx n ++ (List.range (nn n * 2)).map (xx n)).getD _ 0 = _
      rw [List.getD_eq_getElem?_getD, List.getElem?_append_right (by omega), hlen, show totL nn n * 2 + j - totL nn n * 2 = j by omega, List.getElem?_map, List.getElem?_range hj]
      rfl
/-- How many of the first k elements of a lane have one with a smaller time behind them. -/
def buR (x : Nat → Int) : Nat → Nat
  | 0 => 0
  | k + 1 => buR x k + if lst x k < x (k * 2 + 1) then 1 else 0
def buL (nn : Nat → Nat) (xx : Nat → Nat → Int) : Nat → Nat
  | 0 => 0
  | n + 1 => buL nn xx n + buR (xx n) (nn n)
def buB (D : Int) (n : Nat) (nn : Nat → Nat) (xx : Nat → Nat → Int) : Int := if stO D n nn xx then (buL nn xx n : Int) else -1
theorem buR_le (x : Nat → Int) : ∀ k, buR x k ≤ k
  | 0 => Nat.le_refl _
  | k + 1 => by
    have := buR_le x k
    show buR x k + (if _ then 1 else 0) ≤ k + 1
    split <;> omega
theorem buL_le (nn : Nat → Nat) (xx : Nat → Nat → Int) (h : ∀ i, nn i ≤ 5 ∨ True) : ∀ n, buL nn xx n ≤ totL nn n
  | 0 => Nat.le_refl _
  | n + 1 => by
    have := buL_le nn xx h n
    have := buR_le (xx n) (nn n)
    show buL nn xx n + buR (xx n) (nn n) ≤ totL nn n + nn n
    omega
theorem lst_lt {x : Nat → Int} {t : Int} (ht : t ≤ 100000) : ∀ k, lst x k < t ↔ ∃ j, j < k ∧ x (j * 2 + 1) < t
  | 0 => ⟨fun h => by have : (100001 : Int) < t := h; omega, fun ⟨j, hj, _⟩ => absurd hj (by omega)⟩
  | k + 1 => by
    have ih := lst_lt (x := x) ht k
    have e : lst x (k + 1) = min (lst x k) (x (k * 2 + 1)) := rfl
    rw [e]
    constructor
    · intro h
      rcases Int.lt_or_le (lst x k) t with h1 | h1
      · obtain ⟨j, hj, h2⟩ := ih.1 h1
        exact ⟨j, by omega, h2⟩
      · exact ⟨k, by omega, by omega⟩
    · rintro ⟨j, hj, h2⟩
      by_cases ej : j = k
      · subst ej; omega
      · have := ih.2 ⟨j, by omega, h2⟩
        omega
theorem buR_zero {x : Nat → Int} (h : x 1 ≤ 100000) : buR x 1 = 0 := by
  show 0 + (if lst x 0 < x (0 * 2 + 1) then 1 else 0) = 0
  rw [if_neg]
  show ¬ ((100001 : Int) < _)
  simp
  omega

end Go.Proofs.Ytokhkcebdbopcaa
