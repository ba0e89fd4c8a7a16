/- A tag's text read back: plain facts; no program is named here. -/
import Derived.Test.YtopkdkehkdhmgabDoorCandPlain
namespace Go.Proofs.YtopkdkehkdhmgabDoor
open Go.RowKit

theorem numFrom_zeros (c : Nat) (l : List UInt8) : numFrom 0 (List.replicate c 48 ++ l) = numFrom 0 l := by
  induction c with
  | zero => rfl
  | succ c ih => rw [List.replicate_succ, List.cons_append]; exact ih
theorem digs_num (N : Nat) (h : N < 10 ^ 10) : numOf (digs N) = N := by
  obtain ⟨_, ze⟩ := zeros_numeral N h
  rw [← ze, repeat_zero]
  unfold numOf
  rw [numFrom_zeros]
  exact (dec_facts N).2.1
theorem digs_isD (N : Nat) : ∀ c ∈ digs N, isD c := by
  intro c hc
  unfold digs at hc
  obtain ⟨j, _, rfl⟩ := List.mem_map.1 hc
  unfold isD
  rw [dig_nat _ (by omega)]
  omega
theorem digs_atoi (N : Nat) (h : N < 10 ^ 10) : Lib.atoiAll (digs N) = .ok (N : Int) := by
  have h10 : (10 : Nat) ^ 10 = 10000000000 := by decide
  have := atoi_digits (digs_isD N) (by intro e; have := digs_length N; rw [e] at this; simp at this) (by rw [digs_num N h]; omega)
  rw [this, digs_num N h]
/-- What a tag's text says of its own bytes. -/
theorem text_says {a b c : Int} {l : List UInt8} (h : ftext a b c = l) (hl : l.length = 12) :
    ∃ N : Nat, N ≤ 9999999999 ∧ l.take 10 = digs N ∧ numOf (l.take 10) = N ∧ Lib.atoiAll (l.take 10) = .ok (N : Int) ∧ tokB a b c = true ∧ a = ((N / 1000000000 : Nat) : Int) ∧ b = ((N / 1000000 % 1000 : Nat) : Int) ∧ c = ((N % 1000000 : Nat) : Int) ∧ l.getD 10 0 = 45 ∧ isD (l.getD 11 0) := by
  cases hk : tokB a b c
  · unfold ftext at h; rw [hk] at h; simp at h; subst h; simp at hl
  · obtain ⟨n0, n1⟩ := tnum_bd hk
    obtain ⟨c0, c1⟩ := tchk_bd hk
    have e : digs (tnum a b c).toNat ++ [45, UInt8.ofNat (48 + (tchk a b c).toNat)] = l := by rw [← h]; unfold ftext; rw [if_pos hk]
    have hT : tnum a b c = (a * 1000 + b) * 1000000 + c := by unfold tnum; rw [if_pos hk]
    obtain ⟨⟨a0, a9⟩, ⟨b1, b9⟩, k0, k9⟩ := tokB_iff.1 hk
    obtain ⟨N, hN⟩ : ∃ N : Nat, tnum a b c = N := ⟨(tnum a b c).toNat, by omega⟩
    rw [hN, Int.toNat_natCast] at e
    have h10 : (10 : Nat) ^ 10 = 10000000000 := by decide
    have hlt : N < 10 ^ 10 := by omega
    have t10 : l.take 10 = digs N := by
      rw [← e, List.take_append_of_le_length (by rw [digs_length]; exact Nat.le_refl _), List.take_of_length_le (by rw [digs_length]; exact Nat.le_refl _)]
    refine ⟨N, by omega, t10, by rw [t10]; exact digs_num N hlt, by rw [t10]; exact digs_atoi N hlt, rfl, by omega, by omega, by omega, ?_, ?_⟩
    · rw [← e, List.getD_eq_getElem?_getD, List.getElem?_append_right (by rw [digs_length]; omega), digs_length]; rfl
    · rw [← e, List.getD_eq_getElem?_getD, List.getElem?_append_right (by rw [digs_length]; omega), digs_length]
      have := dig_nat (tchk a b c).toNat (by omega)
      simp only [Nat.reduceSub, List.getElem?_cons_succ, List.getElem?_cons_zero, Option.getD_some]
      unfold isD
      omega
theorem tagOf_some {l : List UInt8} (hl : l.length = 12) {a b c : Int} (h : ftext a b c = l) : ∃ N : Nat, Lib.atoiAll (l.take 10) = .ok (N : Int) ∧ N ≤ 9999999999 ∧ a = ((N / 1000000000 : Nat) : Int) ∧ b = ((N / 1000000 % 1000 : Nat) : Int) ∧ c = ((N % 1000000 : Nat) : Int) ∧ tagOf l = some (N / 1000000000, N / 1000000 % 1000, N % 1000000) := by
  obtain ⟨N, n9, _, hn, ha, _, rfl, rfl, rfl, _, _⟩ := text_says h hl
  refine ⟨N, ha, n9, rfl, rfl, rfl, ?_⟩
  unfold tagOf
  simp only [hn]
  rw [if_pos h]
/-- What a text's tag is, the other way round. -/
theorem tagOf_says {l : List UInt8} (hl : l.length = 12) {t : Nat × Nat × Nat} (h : tagOf l = some t) : ∃ N : Nat, Lib.atoiAll (l.take 10) = .ok (N : Int) ∧ N ≤ 9999999999 ∧ t = (N / 1000000000, N / 1000000 % 1000, N % 1000000) ∧ ftext (t.1 : Int) (t.2.1 : Int) (t.2.2 : Int) = l := by
  unfold tagOf at h
  simp only at h
  by_cases k : ftext ((numOf (l.take 10) / 1000000000 : Nat) : Int) ((numOf (l.take 10) / 1000000 % 1000 : Nat) : Int) ((numOf (l.take 10) % 1000000 : Nat) : Int) = l
  · rw [if_pos k] at h
    injection h with h
    obtain ⟨N, n9, _, hn, ha, _, _⟩ := text_says k hl
    rw [hn] at h k
    subst h
    exact ⟨N, ha, n9, rfl, k⟩
  · rw [if_neg k] at h
    exact absurd h (by simp)
/-- If no tag has the text, none of those that can be read has it. -/
theorem tagOf_none {l : List UInt8} (hl : l.length = 12) (h : tagOf l = none) (a b c : Int) : ftext a b c ≠ l := by
  intro e
  obtain ⟨N, _, _, _, _, _, k⟩ := tagOf_some hl e
  rw [h] at k
  exact absurd k (by simp)
/-- The candidates of a text that a tag has. -/
theorem cands_tag {l : List UInt8} (hl : l.length = 12) {t : Nat × Nat × Nat} (h : tagOf l = some t) : frm l ∧ cands l = [t] := by
  obtain ⟨N, _, _, _, k⟩ := tagOf_says hl h
  obtain ⟨M, m9, t10, _, _, _, _, _, _, h10, h11⟩ := text_says k hl
  have hd : ∀ i, i < 12 → i ≠ 10 → isD (l.getD i 0) := by
    intro i hi hne
    by_cases e : i = 11
    · subst e; exact h11
    · have hi10 : i < 10 := by omega
      have hg : l.getD i 0 = (l.take 10).getD i 0 := by
        rw [List.getD_eq_getElem?_getD, List.getD_eq_getElem?_getD, List.getElem?_take, if_pos hi10]
      rw [hg, t10, List.getD_eq_getElem?_getD, List.getElem?_eq_getElem (by rw [digs_length]; exact hi10)]
      exact digs_isD M _ (List.getElem_mem _)
  have hq : ∀ i, i < 12 → isQ l i = false := by
    intro i hi
    unfold isQ
    rw [beq_eq_false_iff_ne]
    intro e
    by_cases h1 : i = 10
    · subst h1; rw [h10] at e; exact absurd e (by decide)
    · have := hd i hi h1
      rw [e] at this
      have := this.2
      exact absurd this (by decide)
  have hp : placesTo l 12 = [] := by
    unfold placesTo
    rw [List.filter_eq_nil_iff]
    intro i hi
    rw [hq i (List.mem_range.1 hi)]
    decide
  refine ⟨⟨hl, h10, fun i hi hne => .inr (hd i hi hne), by rw [hp]; simp⟩, ?_⟩
  unfold cands
  rw [hp, fills]
  simp [h]

end Go.Proofs.YtopkdkehkdhmgabDoor
