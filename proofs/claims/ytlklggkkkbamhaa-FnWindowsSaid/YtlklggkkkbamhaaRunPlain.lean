/- Runs of a belt in plain words: what is on it and what has left when some steps are done. -/
import Derived.Test.YtlklggkkkbamhaaBeltPlain
namespace Go.Proofs.Ytlklggkkkbamhaa

/-- The first item leaves. -/
def lq (L : Int) (H : Bool) (n : Nat) (z : Nat → Int) : Bool := !H && decide (0 < n) && decide (L ≤ z 1)
theorem lq_yes {L : Int} {H : Bool} {n : Nat} {z : Nat → Int} (h : lq L H n z = true) : H = false ∧ 0 < n ∧ L ≤ z 1 := by
  unfold lq at h
  simp only [Bool.and_eq_true, decide_eq_true_eq, Bool.not_eq_true'] at h
  exact ⟨h.1.1, h.1.2, h.2⟩
theorem lq_no {L : Int} {H : Bool} {n : Nat} {z : Nat → Int} (h : lq L H n z = false) : H = true ∨ n = 0 ∨ z 1 < L := by
  cases H with
  | true => exact .inl rfl
  | false =>
    rcases Nat.eq_zero_or_pos n with h0 | h0
    · exact .inr (.inl h0)
    · refine .inr (.inr ?_)
      unfold lq at h
      rw [decide_eq_true h0] at h
      simpa using h
structure RS where
  n : Nat
  z : Nat → Int
  l : List Int
def ruS (L G : Int) (H : Bool) (s : Nat) (r : RS) : RS :=
  if lq L H r.n r.z = true then ⟨r.n - 1, stZ L G (shZ r.z), r.l ++ [r.z 0, (s : Int)]⟩ else ⟨r.n, stZ L G r.z, r.l⟩
def ru (L G : Int) (H : Bool) (n : Nat) (z : Nat → Int) : Nat → RS
  | 0 => ⟨n, z, []⟩
  | s + 1 => ruS L G H s (ru L G H n z s)
theorem ru_yes {L G : Int} {H : Bool} {n : Nat} {z : Nat → Int} {s : Nat} (h : lq L H (ru L G H n z s).n (ru L G H n z s).z = true) : ru L G H n z (s + 1) = ⟨(ru L G H n z s).n - 1, stZ L G (shZ (ru L G H n z s).z), (ru L G H n z s).l ++ [(ru L G H n z s).z 0, (s : Int)]⟩ := by
  show ruS _ _ _ _ _ = _
  unfold ruS
  rw [if_pos h]
theorem ru_no {L G : Int} {H : Bool} {n : Nat} {z : Nat → Int} {s : Nat} (h : lq L H (ru L G H n z s).n (ru L G H n z s).z = false) : ru L G H n z (s + 1) = ⟨(ru L G H n z s).n, stZ L G (ru L G H n z s).z, (ru L G H n z s).l⟩ := by
  show ruS _ _ _ _ _ = _
  unfold ruS
  rw [if_neg (by rw [h]; decide)]
theorem ru_ok {L G : Int} {H : Bool} {n : Nat} {z : Nat → Int} (h : OkP L G n z) : ∀ s, OkP L G (ru L G H n z s).n (ru L G H n z s).z
  | 0 => h
  | s + 1 => by
    have ih := ru_ok (H := H) h s
    cases hl : lq L H (ru L G H n z s).n (ru L G H n z s).z with
    | true =>
      obtain ⟨-, h0, -⟩ := lq_yes hl
      rw [ru_yes hl]
      obtain ⟨m, hm⟩ : ∃ m, (ru L G H n z s).n = m + 1 := ⟨(ru L G H n z s).n - 1, by omega⟩
      rw [hm] at ih ⊢
      exact (okIt_shift ih).step
    | false => rw [ru_no hl]; exact ih.step
/-- How many have left. -/
theorem ru_len {L G : Int} {H : Bool} {n : Nat} {z : Nat → Int} : ∀ s, (ru L G H n z s).n ≤ n ∧ (ru L G H n z s).l.length = (n - (ru L G H n z s).n) * 2
  | 0 => ⟨Nat.le_refl _, by show 0 = (n - n) * 2; omega⟩
  | s + 1 => by
    obtain ⟨h1, h2⟩ := ru_len (L := L) (G := G) (H := H) (n := n) (z := z) s
    cases hl : lq L H (ru L G H n z s).n (ru L G H n z s).z with
    | true =>
      obtain ⟨-, h0, -⟩ := lq_yes hl
      rw [ru_yes hl]
      refine ⟨by show _ - 1 ≤ n; omega, ?_⟩
      show (_ ++ [_, _]).length = (n - (_ - 1)) * 2
      rw [List.length_append, h2]
      simp
      omega
    | false => rw [ru_no hl]; exact ⟨h1, h2⟩

/-! Each item goes on. -/
theorem all_move {L G : Int} {m : Nat} {z : Nat → Int} (h : OkP L G m z) (h0 : 0 < m → z 1 < L) : ∀ k, k < m → stF L G z k = z (k * 3 + 1) + 1
  | 0, hk => by
    show adv (z 1) L = z (0 * 3 + 1) + 1
    unfold adv
    rw [if_pos (h0 hk)]
  | k + 1, hk => by
    have ih := all_move h h0 k (by omega)
    have h1 := (h.2.2.2 (k + 1) hk).2.2.2.2.2
    have h2 : z ((k + 1) * 3 + 1) ≤ z (k * 3 + 1) - z (k * 3 + 2) - G := h1
    show adv (z ((k + 1) * 3 + 1)) (stF L G z k - z (k * 3 + 2) - G) = _
    rw [ih]
    unfold adv
    rw [if_pos (by omega)]
/-- When s steps are done, c items have left. -/
structure RuAt (L : Int) (n : Nat) (z : Nat → Int) (s c : Nat) (r : RS) : Prop where
  le : c ≤ n
  num : r.n = n - c
  gone : ∀ i, i < c → L - z (i * 3 + 1) < (s : Int)
  next : c < n → (s : Int) ≤ L - z (c * 3 + 1)
  row : ∀ j, j < (n - c) * 3 → r.z j = z (j + c * 3) + if j % 3 = 1 then (s : Int) else 0
  len : r.l.length = c * 2
  out : ∀ i, i < c → r.l.getD (i * 2) 0 = z (i * 3) ∧ r.l.getD (i * 2 + 1) 0 = L - z (i * 3 + 1)
theorem front_lt {L G : Int} {n : Nat} {z : Nat → Int} (h : OkP L G n z) {k : Nat} (hk : k + 1 < n) : z ((k + 1) * 3 + 1) < z (k * 3 + 1) := by
  have h1 : z ((k + 1) * 3 + 1) ≤ z (k * 3 + 1) - z (k * 3 + 2) - G := (h.2.2.2 (k + 1) hk).2.2.2.2.2
  have h2 := h.front (k := k) (by omega)
  have := h.2.1.1
  omega
theorem getD_snoc2 {l : List Int} {a b : Int} {j : Nat} (hl : l.length = j) : (l ++ [a, b]).getD j 0 = a ∧ (l ++ [a, b]).getD (j + 1) 0 = b := by
  constructor
  · rw [List.getD_eq_getElem?_getD, List.getElem?_append_right (by omega), hl, Nat.sub_self]; rfl
  · rw [List.getD_eq_getElem?_getD, List.getElem?_append_right (by omega), show j + 1 - l.length = 1 by omega]; rfl
theorem getD_left2 {l r : List Int} {j : Nat} (h : j < l.length) : (l ++ r).getD j 0 = l.getD j 0 := by
  rw [List.getD_eq_getElem?_getD, List.getD_eq_getElem?_getD, List.getElem?_append_left h]
theorem ru_at {L G : Int} {n : Nat} {z : Nat → Int} (h : OkP L G n z) : ∀ s, ∃ c, RuAt L n z s c (ru L G false n z s)
  | 0 => ⟨0, Nat.zero_le _, rfl, fun i hi => absurd hi (by omega), fun h0 => by have := h.front h0; show (0 : Int) ≤ _; omega, fun j hj => by show z j = _; simp, rfl, fun i hi => absurd hi (by omega)⟩
  | s + 1 => by
    obtain ⟨c, hc⟩ := ru_at h s
    have hok := ru_ok (H := false) h s
    obtain ⟨r, hr⟩ : ∃ r, r = ru L G false n z s := ⟨_, rfl⟩
    have hry := @ru_yes L G false n z s
    have hrn := @ru_no L G false n z s
    rw [← hr] at hc hok hry hrn
    cases hl : lq L false r.n r.z with
    | true =>
      obtain ⟨-, h0, h1⟩ := lq_yes hl
      rw [hry hl]
      have hcn : c < n := by have := hc.num; omega
      have e1 : r.z 1 = z (c * 3 + 1) + (s : Int) := by
        have := hc.row 1 (by omega)
        rw [this, if_pos rfl, show 1 + c * 3 = c * 3 + 1 by omega]
      have e0 : r.z 0 = z (c * 3) := by
        have := hc.row 0 (by omega)
        rw [this, if_neg (by decide), show 0 + c * 3 = c * 3 by omega]; omega
      have hs := hc.next hcn
      have hss : (s : Int) = L - z (c * 3 + 1) := by omega
      obtain ⟨m, hm⟩ : ∃ m, r.n = m + 1 := ⟨r.n - 1, by omega⟩
      rw [hm] at hok
      have hsh := okIt_shift hok
      have hmn : m = n - (c + 1) := by have := hc.num; omega
      have erow : ∀ j, j < m * 3 → shZ r.z j = z (j + (c + 1) * 3) + if j % 3 = 1 then (s : Int) else 0 := fun j hj => by
        have := hc.row (j + 3) (by omega)
        show r.z (j + 3) = _
        rw [this, show j + 3 + c * 3 = j + (c + 1) * 3 by omega, show (j + 3) % 3 = j % 3 by omega]
      have hmv := all_move hsh (fun hm0 => by
        have e4 := erow 1 (by omega)
        rw [if_pos rfl, show 1 + (c + 1) * 3 = (c + 1) * 3 + 1 by omega] at e4
        have := front_lt h (k := c) (by omega)
        rw [e4]; omega)
      obtain ⟨g1, g2⟩ := getD_snoc2 (l := r.l) (a := r.z 0) (b := (s : Int)) hc.len
      refine ⟨c + 1, by omega, by show r.n - 1 = _; omega, ?_, ?_, ?_, ?_, ?_⟩
      · intro i hi
        by_cases ei : i = c
        · subst ei; omega
        · have := hc.gone i (by omega); omega
      · intro hcc
        have := front_lt h (k := c) (by omega)
        omega
      · intro j hj
        show stZ L G (shZ r.z) j = _
        unfold stZ
        by_cases hj3 : j % 3 = 1
        · rw [if_pos hj3, if_pos hj3, hmv (j / 3) (by omega), show j / 3 * 3 + 1 = j by omega, erow j (by omega), if_pos hj3]
          omega
        · rw [if_neg hj3, if_neg hj3, erow j (by omega), if_neg hj3]
      · show (r.l ++ [_, _]).length = _
        rw [List.length_append, hc.len]; simp; omega
      · intro i hi
        show (r.l ++ [r.z 0, (s : Int)]).getD (i * 2) 0 = _ ∧ (r.l ++ [r.z 0, (s : Int)]).getD (i * 2 + 1) 0 = _
        by_cases ei : i = c
        · subst ei; rw [g1, g2, e0, hss]; exact ⟨rfl, rfl⟩
        · rw [getD_left2 (by rw [hc.len]; omega), getD_left2 (by rw [hc.len]; omega)]
          exact hc.out i (by omega)
    | false =>
      rw [hrn hl]
      have h1 : r.n = 0 ∨ r.z 1 < L := by
        rcases lq_no hl with e | e | e
        · cases e
        · exact .inl e
        · exact .inr e
      have hlt : c < n → z (c * 3 + 1) + (s : Int) < L := fun hcn => by
        rcases h1 with e | e
        · have := hc.num; omega
        · have := hc.row 1 (by omega)
          rw [if_pos rfl, show 1 + c * 3 = c * 3 + 1 by omega] at this
          omega
      have hmv := all_move hok (fun h0 => by
        rcases h1 with e | e
        · omega
        · exact e)
      refine ⟨c, hc.le, hc.num, fun i hi => by have := hc.gone i hi; omega, fun hcn => by have := hlt hcn; omega, ?_, hc.len, hc.out⟩
      intro j hj
      show stZ L G r.z j = _
      unfold stZ
      have hnum := hc.num
      by_cases hj3 : j % 3 = 1
      · rw [if_pos hj3, if_pos hj3, hmv (j / 3) (by omega), show j / 3 * 3 + 1 = j by omega, hc.row j hj, if_pos hj3]
        omega
      · rw [if_neg hj3, if_neg hj3, hc.row j hj, if_neg hj3]
/-- On a belt that is held nothing leaves. -/
theorem ru_held {L G : Int} {n : Nat} {z : Nat → Int} : ∀ s, (ru L G true n z s).n = n ∧ (ru L G true n z s).l = []
  | 0 => ⟨rfl, rfl⟩
  | s + 1 => by rw [ru_no rfl]; exact ru_held s

end Go.Proofs.Ytlklggkkkbamhaa
