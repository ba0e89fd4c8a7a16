/- The candidates of a text ascend, and each one's text differs from it at a '?' alone: plain facts; no program is named here. -/
import Derived.Test.YtjdmagackoddaaaDoorNearSeven
import Derived.Test.YtjdmagackoddaaaDoorFillState
namespace Go.Proofs.YtjdmagackoddaaaDoor
open Go.RowKit
set_option linter.unusedVariables false

/-- A filling differs from the text at its places alone. -/
theorem fills_at : ∀ (ps : List Nat) (b x : List UInt8), x ∈ fills ps b → x.length = b.length ∧ ∀ k, k ∉ ps → x.getD k 0 = b.getD k 0
  | [], b, x, h => by
    rw [fills, List.mem_singleton] at h
    subst h
    exact ⟨rfl, fun _ _ => rfl⟩
  | p :: ps, b, x, h => by
    rw [fills, List.mem_flatMap] at h
    obtain ⟨d, _, hx⟩ := h
    obtain ⟨h1, h2⟩ := fills_at ps _ x hx
    refine ⟨by rw [h1, List.length_set], fun k hk => ?_⟩
    simp only [List.mem_cons, not_or] at hk
    rw [h2 k hk.2, getD_set, if_neg (fun h => hk.1 h.1.symm)]

/-- One text stands ahead of another. -/
def Lx (x y : List UInt8) : Prop := ∃ p, (x.getD p 0).toNat < (y.getD p 0).toNat ∧ ∀ j, j < p → x.getD j 0 = y.getD j 0

theorem fills_asc : ∀ (ps : List Nat) (b : List UInt8), ps.Pairwise (fun x y => x < y) → (∀ p ∈ ps, p < b.length) → (fills ps b).Pairwise Lx
  | [], b, _, _ => by rw [fills]; exact List.pairwise_singleton _ _
  | p :: ps, b, hs, hl => by
    obtain ⟨h1, h2⟩ := List.pairwise_cons.1 hs
    rw [fills, List.pairwise_flatMap]
    refine ⟨fun d hd => fills_asc ps _ h2 (fun q hq => by rw [List.length_set]; exact hl q (by simp [hq])), ?_⟩
    refine List.Pairwise.imp_of_mem (l := List.range 10) ?_ List.pairwise_lt_range
    intro d d' hd hd' hdd x hx y hy
    have hnp : p ∉ ps := fun h => Nat.lt_irrefl _ (h1 p h)
    obtain ⟨_, fx⟩ := fills_at ps _ x hx
    obtain ⟨_, fy⟩ := fills_at ps _ y hy
    have hpl := hl p (by simp)
    refine ⟨p, ?_, fun j hj => ?_⟩
    · rw [fx p hnp, fy p hnp, getD_set, getD_set, if_pos ⟨rfl, hpl⟩, if_pos ⟨rfl, hpl⟩]
      rw [List.mem_range] at hd hd'
      unfold dg8
      rw [dig_nat _ (by omega), dig_nat _ (by omega)]
      omega
    · have hj2 : j ∉ ps := fun h => by have := h1 j h; omega
      rw [fx j hj2, fy j hj2, getD_set, getD_set, if_neg (by omega), if_neg (by omega)]

theorem heads_eq {N M : Nat} (hN : N < 10 ^ 10) (hM : M < 10 ^ 10) : ∀ p, p ≤ 10 → (∀ i, i < p → N / 10 ^ (9 - i) % 10 = M / 10 ^ (9 - i) % 10) → N / 10 ^ (10 - p) = M / 10 ^ (10 - p)
  | 0, _, _ => by rw [Nat.sub_zero, Nat.div_eq_of_lt hN, Nat.div_eq_of_lt hM]
  | p + 1, hp, h => by
    have ih := heads_eq hN hM p (by omega) (fun i hi => h i (by omega))
    have e := h p (by omega)
    have hs : 10 - p = (9 - p) + 1 := by omega
    have hs' : 10 - (p + 1) = 9 - p := by omega
    rw [hs, Nat.pow_succ, ← Nat.div_div_eq_div_mul, ← Nat.div_div_eq_div_mul] at ih
    rw [hs']
    generalize N / 10 ^ (9 - p) = u at *
    generalize M / 10 ^ (9 - p) = v at *
    omega

theorem lx_lt {N M : Nat} (hN : N < 10 ^ 10) (hM : M < 10 ^ 10) (h : Lx (txt N) (txt M)) : N < M := by
  obtain ⟨p, hlt, heq⟩ := h
  have hd : ∀ i, i < p → i < 10 → N / 10 ^ (9 - i) % 10 = M / 10 ^ (9 - i) % 10 := fun i hi h10 => by
    have e := heq i hi
    rw [txt_low N i h10, txt_low M i h10] at e
    have e := congrArg UInt8.toNat e
    rw [dig_nat _ (Nat.mod_lt _ (by decide)), dig_nat _ (Nat.mod_lt _ (by decide))] at e
    omega
  by_cases hp : p < 10
  · have e := heads_eq hN hM p (by omega) (fun i hi => hd i hi (by omega))
    rw [txt_low N p hp, txt_low M p hp, dig_nat _ (Nat.mod_lt _ (by decide)), dig_nat _ (Nat.mod_lt _ (by decide))] at hlt
    have hs : 10 - p = (9 - p) + 1 := by omega
    rw [hs, Nat.pow_succ, ← Nat.div_div_eq_div_mul, ← Nat.div_div_eq_div_mul] at e
    have h2 : N / 10 ^ (9 - p) < M / 10 ^ (9 - p) := by
      generalize N / 10 ^ (9 - p) = u at *
      generalize M / 10 ^ (9 - p) = v at *
      omega
    exact Decidable.byContradiction fun hc => by
      have := Nat.div_le_div_right (c := 10 ^ (9 - p)) (show M ≤ N by omega)
      omega
  · exfalso
    have e := heads_eq hN hM 10 (by omega) (fun i hi => hd i (by omega) hi)
    simp only [Nat.sub_self, Nat.pow_zero, Nat.div_one] at e
    subst e
    omega

/-- The number of a valid tag. -/
def numT (t : Nat × Nat × Nat) : Nat := (t.1 * 1000 + t.2.1) * 1000000 + t.2.2
/-- A filling that is a tag's text. -/
theorem cand_txt {l : List UInt8} (hf : frm l) {b : List UInt8} (hb : b ∈ fills (placesTo l 12) l) {t : Nat × Nat × Nat} (ht : tagOf b = some t) : okN (numT t) = true ∧ tri (numT t) = t ∧ b = txt (numT t) := by
  have hl : b.length = 12 := by rw [(fills_at _ _ _ hb).1]; exact hf.1
  obtain ⟨N, _, n9, rfl, htx⟩ := tagOf_says hl ht
  obtain ⟨_, _, _, _, _, htok, _⟩ := text_says htx hl
  have hok : okN N = true := by
    have h1 := triB_eq n9
    unfold triB tri at h1
    rw [← h1]; exact htok
  have hn : numT (N / 1000000000, N / 1000000 % 1000, N % 1000000) = N := by
    unfold numT
    simp only
    omega
  rw [hn]
  refine ⟨hok, rfl, ?_⟩
  rw [← htx]
  exact ftext_tri hok
/-- What a candidate is. -/
theorem cand_is {l : List UInt8} (hf : frm l) {t : Nat × Nat × Nat} (h : t ∈ cands l) : okN (numT t) = true ∧ tri (numT t) = t ∧ ∀ k, k < 12 → l.getD k 0 ≠ 63 → (txt (numT t)).getD k 0 = l.getD k 0 := by
  unfold cands at h
  obtain ⟨b, hb, ht⟩ := List.mem_filterMap.1 h
  obtain ⟨h1, h2, h3⟩ := cand_txt hf hb ht
  refine ⟨h1, h2, fun k hk hq => ?_⟩
  rw [← h3]
  refine (fills_at _ _ _ hb).2 k (fun hm => hq ?_)
  have := (List.mem_filter.1 hm).2
  unfold isQ at this
  exact eq_of_beq this
theorem cands_asc {l : List UInt8} (hf : frm l) : (cands l).Pairwise fun t u => numT t < numT u := by
  unfold cands
  rw [List.pairwise_filterMap]
  refine List.Pairwise.imp_of_mem ?_ (fills_asc (placesTo l 12) l (List.Pairwise.filter _ List.pairwise_lt_range) (fun p hp => by rw [hf.1]; exact placesTo_lt l 12 p hp))
  intro b c hb hc hlx t ht u hu
  obtain ⟨h1, _, e1⟩ := cand_txt hf hb ht
  obtain ⟨h2, _, e2⟩ := cand_txt hf hc hu
  rw [e1, e2] at hlx
  have n1 := (okN_iff.1 h1).1
  have n2 := (okN_iff.1 h2).1
  exact lx_lt (by omega) (by omega) hlx
theorem cands_le {l : List UInt8} (h : frm l) : (cands l).length ≤ 1000 := by
  have h1 := List.length_filterMap_le tagOf (fills (placesTo l 12) l)
  have h2 := fills_len (placesTo l 12) l
  have h3 : 10 ^ (placesTo l 12).length ≤ 10 ^ 3 := Nat.pow_le_pow_right (by decide) h.2.2.2
  have h4 : (cands l).length ≤ 10 ^ 3 := Nat.le_trans (Nat.le_trans h1 h2) h3
  simpa using h4

end Go.Proofs.YtjdmagackoddaaaDoor
