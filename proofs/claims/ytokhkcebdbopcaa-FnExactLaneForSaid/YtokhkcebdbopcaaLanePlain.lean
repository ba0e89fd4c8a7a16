/- The first of the best: of the numbers below n for which P holds, the first one with the least key; -1 if there is none. -/
import Derived.Test.YtokhkcebdbopcaaStorePlain
namespace Go.Proofs.Ytokhkcebdbopcaa

def fb (P : Nat → Bool) (key : Nat → Int) : Nat → Int
  | 0 => -1
  | k + 1 => if P k = true ∧ (fb P key k < 0 ∨ key k < key (fb P key k).toNat) then (k : Int) else fb P key k
/-- What that means. -/
structure FbIs (P : Nat → Bool) (key : Nat → Int) (n : Nat) (r : Int) : Prop where
  none : r < 0 → r = -1 ∧ ∀ i, i < n → P i = false
  some : ∀ m : Nat, r = (m : Int) → m < n ∧ P m = true ∧ (∀ j, j < n → P j = true → key m ≤ key j) ∧ ∀ j, j < m → P j = true → key m < key j
theorem fb_is (P : Nat → Bool) (key : Nat → Int) : ∀ n, FbIs P key n (fb P key n)
  | 0 => ⟨fun _ => ⟨rfl, fun i hi => absurd hi (by omega)⟩, fun m h => by
      have : (-1 : Int) = (m : Int) := h
      omega⟩
  | n + 1 => by
    have ih := fb_is P key n
    show FbIs P key (n + 1) (if _ then _ else _)
    by_cases h : P n = true ∧ (fb P key n < 0 ∨ key n < key (fb P key n).toNat)
    · rw [if_pos h]
      refine ⟨fun h1 => by omega, fun m hm => ?_⟩
      obtain rfl : m = n := by omega
      refine ⟨by omega, h.1, fun j hj hp => ?_, fun j hj hp => ?_⟩
      · by_cases e : j = m
        · subst e; exact Int.le_refl _
        · rcases h.2 with h2 | h2
          · rw [(ih.none h2).2 j (by omega)] at hp; cases hp
          · obtain ⟨q, hq⟩ : ∃ q : Nat, fb P key m = (q : Int) := ⟨(fb P key m).toNat, by
              rcases Int.lt_or_le (fb P key m) 0 with h3 | h3
              · exact absurd ((ih.none h3).2 j (by omega)) (by rw [hp]; decide)
              · omega⟩
            have h4 := (ih.some q hq).2.2.1 j (by omega) hp
            rw [hq] at h2
            simp only [Int.toNat_natCast] at h2
            omega
      · rcases h.2 with h2 | h2
        · rw [(ih.none h2).2 j (by omega)] at hp; cases hp
        · obtain ⟨q, hq⟩ : ∃ q : Nat, fb P key m = (q : Int) := ⟨(fb P key m).toNat, by
            rcases Int.lt_or_le (fb P key m) 0 with h3 | h3
            · exact absurd ((ih.none h3).2 j (by omega)) (by rw [hp]; decide)
            · omega⟩
          have h4 := (ih.some q hq).2.2.1 j (by omega) hp
          rw [hq] at h2
          simp only [Int.toNat_natCast] at h2
          omega
    · rw [if_neg h]
      refine ⟨fun h1 => ⟨(ih.none h1).1, fun i hi => ?_⟩, fun m hm => ?_⟩
      · by_cases e : i = n
        · subst e
          cases hp : P i with
          | false => rfl
          | true => exact absurd ⟨hp, .inl h1⟩ h
        · exact (ih.none h1).2 i (by omega)
      · obtain ⟨h1, h2, h3, h4⟩ := ih.some m hm
        refine ⟨by omega, h2, fun j hj hp => ?_, h4⟩
        by_cases e : j = n
        · subst e
          by_cases hk : key j < key m
          · exact absurd ⟨hp, .inr (by rw [hm]; simpa using hk)⟩ h
          · omega
        · exact h3 j (by omega) hp
theorem FbIs.one {P : Nat → Bool} {key : Nat → Int} {n : Nat} {r s : Int} (h : FbIs P key n r) (k : FbIs P key n s) : r = s := by
  rcases Int.lt_or_le r 0 with h1 | h1
  · rcases Int.lt_or_le s 0 with h2 | h2
    · rw [(h.none h1).1, (k.none h2).1]
    · obtain ⟨m, rfl⟩ : ∃ m : Nat, s = (m : Int) := ⟨s.toNat, by omega⟩
      have := k.some m rfl
      rw [(h.none h1).2 m this.1] at this
      cases this.2.1
  · obtain ⟨m, rfl⟩ : ∃ m : Nat, r = (m : Int) := ⟨r.toNat, by omega⟩
    have h3 := h.some m rfl
    rcases Int.lt_or_le s 0 with h2 | h2
    · rw [(k.none h2).2 m h3.1] at h3
      cases h3.2.1
    · obtain ⟨q, rfl⟩ : ∃ q : Nat, s = (q : Int) := ⟨s.toNat, by omega⟩
      have h4 := k.some q rfl
      have h5 := h3.2.2.1 q h4.1 h4.2.1
      have h6 := h4.2.2.1 m h3.1 h3.2.1
      rcases Nat.lt_trichotomy m q with h7 | h7 | h7
      · have := h4.2.2.2 m h7 h3.2.1; omega
      · rw [h7]
      · have := h3.2.2.2 q h7 h4.2.1; omega
theorem fb_eq {P Q : Nat → Bool} {f g : Nat → Int} {n : Nat} (h : ∀ i, i < n → P i = Q i) (k : ∀ i, i < n → P i = true → f i = g i) : fb P f n = fb Q g n := by
  refine (fb_is P f n).one ⟨fun h1 => ?_, fun m hm => ?_⟩
  · exact ⟨((fb_is Q g n).none h1).1, fun i hi => by rw [h i hi]; exact ((fb_is Q g n).none h1).2 i hi⟩
  · obtain ⟨h1, h2, h3, h4⟩ := (fb_is Q g n).some m hm
    have hpm : P m = true := by rw [h m h1]; exact h2
    refine ⟨h1, hpm, fun j hj hp => ?_, fun j hj hp => ?_⟩
    · rw [k m h1 hpm, k j hj hp]; exact h3 j hj (by rw [← h j hj]; exact hp)
    · rw [k m h1 hpm, k j (by omega) hp]; exact h4 j hj (by rw [← h j (by omega)]; exact hp)

/-- The least time of the first k elements of a lane; 100001 if k is 0. -/
def lst (x : Nat → Int) : Nat → Int
  | 0 => 100001
  | k + 1 => min (lst x k) (x (k * 2 + 1))
/-- Lane i can take a bag. -/
def can (D : Int) (nn : Nat → Nat) (but : Int) (i : Nat) : Bool := !((i : Int) == but) && decide ((nn i : Int) < D)
/-- The key of lane i: what kind of lane it is, and what stands there. -/
def lkey (nn : Nat → Nat) (xx : Nat → Nat → Int) (t : Int) (i : Nat) : Int :=
  if nn i = 0 then 200000 else if t ≤ lst (xx i) (nn i) then lst (xx i) (nn i) else 600000 - lst (xx i) (nn i)
/-- The lane that takes a bag. -/
def lfr (D : Int) (n : Nat) (nn : Nat → Nat) (xx : Nat → Nat → Int) (t but : Int) : Int :=
  if stO D n nn xx ∧ 0 ≤ t ∧ t ≤ 100000 then fb (can D nn but) (lkey nn xx t) n else -1
theorem lst_bound {x : Nat → Int} {k : Nat} (h : tmOk x k) : 0 ≤ lst x k ∧ lst x k ≤ 100001 ∧ (0 < k → lst x k ≤ 100000) := by
  induction k with
  | zero => exact ⟨by show (0 : Int) ≤ 100001; decide, by show (100001 : Int) ≤ 100001; decide, fun h => absurd h (by omega)⟩
  | succ k ih =>
    have h1 := ih (fun j hj => h j (by omega))
    have h2 := h k (by omega)
    have e : lst x (k + 1) = min (lst x k) (x (k * 2 + 1)) := rfl
    rw [e]
    omega

/-- The three searches of the model. -/
def can0 (D : Int) (nn : Nat → Nat) (xx : Nat → Nat → Int) (t but : Int) (i : Nat) : Bool := can D nn but i && decide (0 < nn i) && decide (t ≤ lst (xx i) (nn i))
def can1 (D : Int) (nn : Nat → Nat) (but : Int) (i : Nat) : Bool := can D nn but i && decide (nn i = 0)
def can2 (D : Int) (nn : Nat → Nat) (but : Int) (i : Nat) : Bool := can D nn but i && decide (0 < nn i)
theorem lf_three {D : Int} {n : Nat} {nn : Nat → Nat} {xx : Nat → Nat → Int} {t but : Int} (ho : ∀ i, i < n → tmOk (xx i) (nn i)) (ht : 0 ≤ t) :
    fb (can D nn but) (lkey nn xx t) n = if 0 ≤ fb (can0 D nn xx t but) (fun i => lst (xx i) (nn i)) n then fb (can0 D nn xx t but) (fun i => lst (xx i) (nn i)) n
      else if 0 ≤ fb (can1 D nn but) (fun _ => 0) n then fb (can1 D nn but) (fun _ => 0) n else fb (can2 D nn but) (fun i => - lst (xx i) (nn i)) n := by
  have hb := fun i (hi : i < n) => lst_bound (ho i hi)
  have i0 := fb_is (can0 D nn xx t but) (fun i => lst (xx i) (nn i)) n
  have i1 := fb_is (can1 D nn but) (fun _ => 0) n
  have i2 := fb_is (can2 D nn but) (fun i => - lst (xx i) (nn i)) n
  have k0 : ∀ i, i < n → can0 D nn xx t but i = true → lkey nn xx t i = lst (xx i) (nn i) := fun i hi h => by
    unfold can0 at h
    simp only [Bool.and_eq_true, decide_eq_true_eq] at h
    unfold lkey
    rw [if_neg (by omega), if_pos h.2]
  have c0 : ∀ i, can0 D nn xx t but i = true → can D nn but i = true := fun i h => by
    unfold can0 at h
    simp only [Bool.and_eq_true, decide_eq_true_eq] at h
    exact h.1.1
  have c1 : ∀ i, can1 D nn but i = true → can D nn but i = true ∧ nn i = 0 := fun i h => by
    unfold can1 at h
    simpa only [Bool.and_eq_true, decide_eq_true_eq] using h
  have c2 : ∀ i, can2 D nn but i = true → can D nn but i = true ∧ 0 < nn i := fun i h => by
    unfold can2 at h
    simpa only [Bool.and_eq_true, decide_eq_true_eq] using h
  have n0 : ∀ i, i < n → can0 D nn xx t but i = false → can D nn but i = true → 200000 ≤ lkey nn xx t i := fun i hi h hc => by
    have := hb i hi
    unfold can0 at h
    rw [hc] at h
    simp only [Bool.true_and, Bool.and_eq_false_iff, decide_eq_false_iff_not] at h
    unfold lkey
    by_cases e : nn i = 0
    · rw [if_pos e]; omega
    · rw [if_neg e]
      rw [if_neg (by rcases h with h | h <;> omega)]
      omega
  refine (fb_is _ _ n).one ?_
  by_cases h0 : 0 ≤ fb (can0 D nn xx t but) (fun i => lst (xx i) (nn i)) n
  · rw [if_pos h0]
    refine ⟨fun h1 => absurd h1 (by omega), fun m hm => ?_⟩
    obtain ⟨h1, h2, h3, h4⟩ := i0.some m hm
    have hk := k0 m h1 h2
    have hl : lst (xx m) (nn m) ≤ 100001 := (hb m h1).2.1
    refine ⟨h1, c0 m h2, fun j hj hp => ?_, fun j hj hp => ?_⟩
    · cases hc : can0 D nn xx t but j with
      | true => rw [hk, k0 j hj hc]; exact h3 j hj hc
      | false => have := n0 j hj hc hp; omega
    · cases hc : can0 D nn xx t but j with
      | true => rw [hk, k0 j (by omega) hc]; exact h4 j hj hc
      | false => have := n0 j (by omega) hc hp; omega
  rw [if_neg h0]
  have z0 := (i0.none (by omega)).2
  by_cases h1 : 0 ≤ fb (can1 D nn but) (fun _ => 0) n
  · rw [if_pos h1]
    refine ⟨fun h1 => absurd h1 (by omega), fun m hm => ?_⟩
    obtain ⟨g1, g2, g3, g4⟩ := i1.some m hm
    have hk : lkey nn xx t m = 200000 := by unfold lkey; rw [if_pos (c1 m g2).2]
    refine ⟨g1, (c1 m g2).1, fun j hj hp => ?_, fun j hj hp => ?_⟩
    · have := n0 j hj (z0 j hj) hp; omega
    · have g5 := n0 j (by omega) (z0 j (by omega)) hp
      by_cases e : nn j = 0
      · have g6 : can1 D nn but j = true := by unfold can1; rw [hp]; simpa using e
        have := g4 j hj g6
        omega
      · have := hb j (by omega)
        have e2 : lkey nn xx t j = 600000 - lst (xx j) (nn j) := by
          unfold lkey
          rw [if_neg e, if_neg]
          intro h
          have g6 : can0 D nn xx t but j = true := by unfold can0; rw [hp]; simp only [Bool.true_and, Bool.and_eq_true, decide_eq_true_eq]; exact ⟨by omega, h⟩
          rw [z0 j (by omega)] at g6
          cases g6
        omega
  rw [if_neg h1]
  have z1 := (i1.none (by omega)).2
  have k2 : ∀ i, i < n → can D nn but i = true → 0 < nn i ∧ lkey nn xx t i = 600000 - lst (xx i) (nn i) := fun i hi hp => by
    have e : 0 < nn i := by
      rcases Nat.eq_zero_or_pos (nn i) with e | e
      · have g6 : can1 D nn but i = true := by unfold can1; rw [hp]; simpa using e
        rw [z1 i hi] at g6
        cases g6
      · exact e
    refine ⟨e, ?_⟩
    unfold lkey
    rw [if_neg (by omega), if_neg]
    intro h
    have g6 : can0 D nn xx t but i = true := by unfold can0; rw [hp]; simp only [Bool.true_and, Bool.and_eq_true, decide_eq_true_eq]; exact ⟨e, h⟩
    rw [z0 i hi] at g6
    cases g6
  refine ⟨fun h2 => ⟨(i2.none h2).1, fun i hi => ?_⟩, fun m hm => ?_⟩
  · cases hp : can D nn but i with
    | false => rfl
    | true =>
      have := (i2.none h2).2 i hi
      unfold can2 at this
      rw [hp] at this
      have := (k2 i hi hp).1
      simp at *
      omega
  · obtain ⟨g1, g2, g3, g4⟩ := i2.some m hm
    have hc := (c2 m g2).1
    have q2 : ∀ i, i < n → can D nn but i = true → can2 D nn but i = true := fun i hi hp => by unfold can2; rw [hp]; simpa using (k2 i hi hp).1
    refine ⟨g1, hc, fun j hj hp => ?_, fun j hj hp => ?_⟩
    · rw [(k2 m g1 hc).2, (k2 j hj hp).2]
      have := g3 j hj (q2 j hj hp)
      simp at this
      omega
    · rw [(k2 m g1 hc).2, (k2 j (by omega) hp).2]
      have := g4 j hj (q2 j (by omega) hp)
      simp at this
      omega

end Go.Proofs.Ytokhkcebdbopcaa
