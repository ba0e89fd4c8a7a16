/- The tags near a tag differ from it in one digit, by seven, and are ten at most: plain facts; no program is named here. -/
import Derived.Test.YtjdmagackoddaaaDoorNearPlain
namespace Go.Proofs.YtjdmagackoddaaaDoor
open Go.RowKit
set_option linter.unusedVariables false

theorem seven_fin : ∀ c : Fin 7, c.val ≠ 0 → ∀ d D : Fin 10, (d.val * c.val) % 7 = (D.val * c.val) % 7 → d.val ≠ D.val → (d.val = D.val + 7 ∨ D.val = d.val + 7) := by decide
theorem pow_seven : ∀ e : Fin 10, 10 ^ e.val % 7 ≠ 0 := by decide
theorem seven_at (N i d : Nat) (hi : i < 10) (hd : d < 10) (hne : setD N i d ≠ N) (h7 : setD N i d % 7 = N % 7) : (d = N / 10 ^ (9 - i) % 10 + 7 ∨ N / 10 ^ (9 - i) % 10 = d + 7) := by
  have h1 := setD_eq N i d
  have h2 := split_at N (9 - i)
  have hD : N / 10 ^ (9 - i) % 10 < 10 := Nat.mod_lt _ (by decide)
  have hp := pow_seven ⟨9 - i, by omega⟩
  simp only at hp
  generalize setD N i d = M at *
  generalize N / 10 ^ (9 - i + 1) = q at *
  generalize N / 10 ^ (9 - i) % 10 = D at *
  generalize N % 10 ^ (9 - i) = r at *
  generalize 10 ^ (9 - i) = p at *
  rw [Nat.add_mul] at h1 h2
  generalize q * 10 * p = K at *
  have e1 : d * p % 7 = d * (p % 7) % 7 := by rw [Nat.mul_mod, Nat.mul_mod d (p % 7), Nat.mod_mod]
  have e2 : D * p % 7 = D * (p % 7) % 7 := by rw [Nat.mul_mod, Nat.mul_mod D (p % 7), Nat.mod_mod]
  have e3 : d * p % 7 = D * p % 7 := by omega
  have hdD : d ≠ D := by
    intro e
    subst e
    omega
  exact seven_fin ⟨p % 7, Nat.mod_lt _ (by decide)⟩ hp ⟨d, hd⟩ ⟨D, hD⟩ (by simp only; rw [← e1, ← e2, e3]) hdD

/-- A valid tag's text. -/
def txt (M : Nat) : List UInt8 := digs M ++ [45, UInt8.ofNat (48 + M % 7)]
theorem txt_len (M : Nat) : (txt M).length = 12 := by unfold txt; rw [List.length_append, digs_length]; rfl
theorem txt_low (M k : Nat) (hk : k < 10) : (txt M).getD k 0 = UInt8.ofNat (48 + M / 10 ^ (9 - k) % 10) := by
  unfold txt
  rw [List.getD_eq_getElem?_getD, List.getElem?_append_left (by rw [digs_length]; exact hk)]
  simp [digs, hk]
theorem txt_10 (M : Nat) : (txt M).getD 10 0 = 45 := by
  unfold txt
  rw [List.getD_eq_getElem?_getD, List.getElem?_append_right (by rw [digs_length]; omega), digs_length]; rfl
theorem txt_11 (M : Nat) : (txt M).getD 11 0 = UInt8.ofNat (48 + M % 7) := by
  unfold txt
  rw [List.getD_eq_getElem?_getD, List.getElem?_append_right (by rw [digs_length]; omega), digs_length]; rfl
theorem mem_near {N M k : Nat} (h : M ∈ nearTo N k) : ∃ j, j < k ∧ M = setD N (j / 10) (j % 10) ∧ M ≠ N ∧ okN M = true ∧ M % 7 = N % 7 := by
  obtain ⟨h1, h2⟩ := List.mem_filter.1 h
  obtain ⟨j, hj, rfl⟩ := List.mem_map.1 h1
  unfold hit at h2
  simp only [Bool.and_eq_true, decide_eq_true_eq] at h2
  exact ⟨j, List.mem_range.1 hj, rfl, h2.1.1, h2.1.2, h2.2⟩
/-- A near tag's text differs at one place, by seven. -/
theorem near_text {N M : Nat} (h : M ∈ nearTo N 100) : ∃ i, i < 10 ∧ ∀ k, k < 12 → (k ≠ i → (txt M).getD k 0 = (txt N).getD k 0) ∧ (k = i → ((txt M).getD k 0).toNat = ((txt N).getD k 0).toNat + 7 ∨ ((txt N).getD k 0).toNat = ((txt M).getD k 0).toNat + 7) := by
  obtain ⟨j, hj, hM, hne, hok, h7⟩ := mem_near h
  have hi : j / 10 < 10 := by omega
  have hd : j % 10 < 10 := Nat.mod_lt _ (by decide)
  have hs := setD_digs N (j / 10) (j % 10) hi hd
  have h77 := seven_at N (j / 10) (j % 10) hi hd (by rw [← hM]; exact hne) (by rw [← hM]; exact h7)
  rw [← hM] at hs
  generalize j / 10 = i at *
  generalize j % 10 = d at *
  refine ⟨i, hi, fun k hk => ⟨fun hki => ?_, fun hki => ?_⟩⟩
  · by_cases h10 : k < 10
    · have e : (digs M).getD k 0 = (digs N).getD k 0 := by
        rw [hs, List.getD_eq_getElem?_getD, List.getElem?_set, if_neg (fun e => hki e.symm), ← List.getD_eq_getElem?_getD]
      unfold txt
      rw [List.getD_eq_getElem?_getD, List.getD_eq_getElem?_getD, List.getElem?_append_left (by rw [digs_length]; exact h10), List.getElem?_append_left (by rw [digs_length]; exact h10), ← List.getD_eq_getElem?_getD, ← List.getD_eq_getElem?_getD]
      exact e
    · rcases (show k = 10 ∨ k = 11 by omega) with rfl | rfl
      · rw [txt_10, txt_10]
      · rw [txt_11, txt_11, h7]
  · subst hki
    have e1 : (txt M).getD k 0 = UInt8.ofNat (48 + d) := by
      have : (txt M).getD k 0 = (digs M).getD k 0 := by
        unfold txt
        rw [List.getD_eq_getElem?_getD, List.getElem?_append_left (by rw [digs_length]; exact hi), ← List.getD_eq_getElem?_getD]
      rw [this, hs, List.getD_eq_getElem?_getD, List.getElem?_set, if_pos rfl, if_pos (by rw [digs_length]; exact hi)]
      unfold dg8
      rw [Nat.mod_eq_of_lt hd]
      rfl
    have hD : N / 10 ^ (9 - k) % 10 < 10 := Nat.mod_lt _ (by decide)
    rw [e1, txt_low N k hi, u8_dig hd, u8_dig hD]
    omega
theorem count_one (d0 : Nat) : (List.range 10).countP (fun d => d == d0) ≤ 1 := by
  by_cases h : d0 < 10
  · have : ∀ d : Fin 10, (List.range 10).countP (fun x => x == d.val) ≤ 1 := by decide
    exact this ⟨d0, h⟩
  · rw [List.countP_eq_zero.2]
    · omega
    · intro d hd
      have := List.mem_range.1 hd
      simp; omega
theorem block_one (N i : Nat) (hi : i < 10) : (((List.range 10).map fun d => setD N i d).filter (hit N)).length ≤ 1 := by
  rw [← List.countP_eq_length_filter, List.countP_map]
  have hD : N / 10 ^ (9 - i) % 10 < 10 := Nat.mod_lt _ (by decide)
  refine Nat.le_trans (List.countP_mono_left (q := fun d => d == (if N / 10 ^ (9 - i) % 10 ≤ 2 then N / 10 ^ (9 - i) % 10 + 7 else N / 10 ^ (9 - i) % 10 - 7)) ?_) (count_one _)
  intro d hd hh
  have hd10 := List.mem_range.1 hd
  unfold hit at hh
  simp only [Function.comp, Bool.and_eq_true, decide_eq_true_eq] at hh
  have := seven_at N i d hi hd10 hh.1.1 hh.2
  rw [beq_iff_eq]
  split <;> omega
theorem near_ten (N : Nat) : (nearTo N 100).length ≤ 10 := by
  have : ∀ i, i ≤ 10 → (nearTo N (10 * i)).length ≤ i := by
    intro i
    induction i with
    | zero => intro _; simp [nearTo]
    | succ i ih =>
      intro h
      have h1 := ih (by omega)
      have h2 := block_one N i (by omega)
      have e : nearTo N (10 * (i + 1)) = nearTo N (10 * i) ++ ((List.range 10).map fun d => setD N i d).filter (hit N) := by
        rw [nearTo_ten, List.filter_filter]
        congr 1
        apply List.filter_congr
        intro M _
        unfold hit
        rw [Bool.and_assoc]
      rw [e, List.length_append]
      omega
  exact this 10 (Nat.le_refl _)

end Go.Proofs.YtjdmagackoddaaaDoor
