/- More operators drop no more, as many are served as are not dropped, no more are looked at than there are operators. -/
import Derived.Test.YtkdlhapbbnggoaaMostPlain
namespace Go.Proofs.Ytkdlhapbbnggoaa

/-- How many of the first m are at most x. -/
def cnt (f : Nat → Int) (x : Int) : Nat → Nat
  | 0 => 0
  | m + 1 => cnt f x m + if f m ≤ x then 1 else 0
theorem cnt_congr {f g : Nat → Int} {x : Int} : ∀ m, (∀ j, j < m → f j = g j) → cnt f x m = cnt g x m
  | 0, _ => rfl
  | m + 1, h => by unfold cnt; rw [cnt_congr m (fun j hj => h j (by omega)), h m (by omega)]
theorem cnt_upd {f g : Nat → Int} {x v : Int} {w : Nat} (hg : ∀ j, g j = if j = w then v else f j) : ∀ m, w < m → cnt g x m + (if f w ≤ x then 1 else 0) = cnt f x m + (if v ≤ x then 1 else 0)
  | 0, h => absurd h (by omega)
  | m + 1, h => by
    by_cases e : w = m
    · subst e
      unfold cnt
      rw [cnt_congr (f := g) (g := f) w (fun j hj => by rw [hg, if_neg (by omega)]), hg, if_pos rfl]
      omega
    · have ih := cnt_upd (x := x) hg m (by omega)
      have hgm : g m = f m := by rw [hg, if_neg (fun h => e h.symm)]
      unfold cnt
      rw [hgm]
      omega
theorem cnt_le {f : Nat → Int} {x : Int} : ∀ m, cnt f x m ≤ m
  | 0 => Nat.le_refl _
  | m + 1 => by have := cnt_le (f := f) (x := x) m; unfold cnt; split <;> omega
theorem cnt_pos {f : Nat → Int} {x : Int} : ∀ m j, j < m → f j ≤ x → 0 < cnt f x m
  | 0, j, h, _ => absurd h (by omega)
  | m + 1, j, h, hx => by
    unfold cnt
    by_cases e : j = m
    · subst e; rw [if_pos hx]; omega
    · have := cnt_pos m j (by omega) hx; omega
theorem cnt_none {f : Nat → Int} {x : Int} : ∀ m, (∀ j, j < m → x < f j) → cnt f x m = 0
  | 0, _ => rfl
  | m + 1, h => by unfold cnt; rw [cnt_none m (fun j hj => h j (by omega)), if_neg (by have := h m (by omega); omega)]
theorem cnt_some {f : Nat → Int} {x : Int} {m : Nat} (h : 0 < cnt f x m) : f (whoK f m) ≤ x := by
  refine Classical.byContradiction fun hn => ?_
  rw [cnt_none m (fun j hj => by have := whoK_le (f := f) m j hj; omega)] at h
  omega

theorem drK_zero_iff {t : Int} {m : Nat} {z : Nat → Int} : ∀ n, drK t m z n = 0 ↔ ∀ k, k < n → svO t m z k ≠ -1
  | 0 => ⟨fun _ k hk => absurd hk (by omega), fun _ => rfl⟩
  | n + 1 => by
    have ih := drK_zero_iff (t := t) (m := m) (z := z) n
    show drK t m z n + (if _ then _ else _) = 0 ↔ _
    constructor
    · intro h k hk
      by_cases e : k = n
      · subst e
        intro hh
        rw [if_pos hh] at h
        omega
      · exact ih.1 (by omega) k (by omega)
    · intro h
      rw [ih.2 (fun k hk => h k (by omega)), if_neg (h n (by omega))]
/-- With one operator more no image waits longer, if none was dropped. -/
theorem more_mono {t : Int} (ht0 : 0 ≤ t) (ht : t ≤ 5000) {m n : Nat} (hm : 0 < m) {z : Nat → Int} (h : ImP n z) (hd : ∀ k, k < n → svO t m z k ≠ -1) :
    ∀ k, k ≤ n → (∀ x, cnt (svF t m z k) x m ≤ cnt (svF t (m + 1) z k) x (m + 1)) ∧ ∀ i, i < k → svO t (m + 1) z i ≠ -1
  | 0, _ => by
    refine ⟨fun x => ?_, fun i hi => absurd hi (by omega)⟩
    show cnt (fun _ => 0) x m ≤ cnt (fun _ => 0) x m + _
    omega
  | k + 1, hk => by
    obtain ⟨h1, h2⟩ := more_mono ht0 ht hm h hd k (by omega)
    obtain ⟨a0, a1, n0, n1⟩ := h.at (k := k) (by omega)
    have hw := whoK_lt' (f := svF t m z k) hm
    have hw1 := whoK_lt' (f := svF t (m + 1) z k) (m := m + 1) (by omega)
    have hle : svF t (m + 1) z k (whoK (svF t (m + 1) z k) (m + 1)) ≤ svF t m z k (whoK (svF t m z k) m) := cnt_some (by
      have := h1 (svF t m z k (whoK (svF t m z k) m))
      have := cnt_pos (f := svF t m z k) (x := svF t m z k (whoK (svF t m z k) m)) m _ hw (Int.le_refl _)
      omega)
    have hb : svB t (m + 1) z k ≤ svB t m z k := by unfold svB beg; split <;> split <;> omega
    have hbm : svF t m z k (whoK (svF t m z k) m) ≤ svB t m z k := by unfold svB beg; split <;> omega
    have hbm1 : svF t (m + 1) z k (whoK (svF t (m + 1) z k) (m + 1)) ≤ svB t (m + 1) z k := by unfold svB beg; split <;> omega
    have hlo := svB_ge (t := t) (m := m + 1) (z := z) k
    have hnd : ¬ z (k * 2) + t < svB t m z k := fun hx => hd k (by omega) (svO_drop hx)
    have hnd1 : ¬ z (k * 2) + t < svB t (m + 1) z k := by omega
    refine ⟨fun x => ?_, fun i hi => ?_⟩
    · have u := cnt_upd (x := x) (svF_take hnd) m hw
      have u1 := cnt_upd (x := x) (svF_take hnd1) (m + 1) hw1
      have h3 := h1 x
      by_cases c1 : svF t m z k (whoK (svF t m z k) m) ≤ x
      · rw [if_pos c1] at u
        rw [if_pos (by omega)] at u1
        by_cases c2 : svB t m z k + z (k * 2 + 1) ≤ x
        · rw [if_pos c2] at u
          rw [if_pos (by omega)] at u1
          omega
        · rw [if_neg c2] at u
          omega
      · have h0 : cnt (svF t m z k) x m = 0 := cnt_none m (fun j hj => by have := whoK_le (f := svF t m z k) m j hj; omega)
        rw [if_neg c1, if_neg (by omega)] at u
        omega
    · by_cases e : i = k
      · subst e
        rw [svO_take hnd1]
        omega
      · exact h2 i (by omega)
theorem drK_mono {t : Int} (ht0 : 0 ≤ t) (ht : t ≤ 5000) {m n : Nat} (hm : 0 < m) {z : Nat → Int} (h : ImP n z) (hd : drK t m z n = 0) : ∀ q, drK t (m + q) z n = 0
  | 0 => hd
  | q + 1 => (drK_zero_iff n).2 (more_mono ht0 ht (by omega) h ((drK_zero_iff n).1 (drK_mono ht0 ht hm h hd q)) n (Nat.le_refl _)).2
/-- The least staff: from 1 on, at most as many as images; with it and with each greater one none is dropped, with each lesser one some are. -/
theorem lsI_is {n : Nat} {z : Nat → Int} {t : Int} (h : SvP n z t 16) : 1 ≤ lsI n z t ∧ lsI n z t ≤ 16 ∧ (lsI n z t ≤ 1 ∨ lsI n z t ≤ n) ∧ ∀ s, 1 ≤ s → s ≤ 16 → (drI n z t s = 0 ↔ lsI n z t ≤ s) := by
  have hz : ∀ s : Int, 1 ≤ s → s ≤ 16 → (n : Int) ≤ s → drI n z t s = 0 := fun s h1 h2 h3 => by
    rw [drI_yes (h.staff h1 h2), drK_zero h.2.1.1 h.2.1.2 h.1 (by omega)]; rfl
  have hup : ∀ s s' : Int, 1 ≤ s → s ≤ s' → s' ≤ 16 → drI n z t s = 0 → drI n z t s' = 0 := fun s s' h1 h2 h3 h0 => by
    rw [drI_yes (h.staff h1 (by omega))] at h0
    have h4 := drK_mono h.2.1.1 h.2.1.2 (m := s.toNat) (by omega) h.1 (by omega) (s' - s).toNat
    rw [drI_yes (h.staff (by omega) h3), show s'.toNat = s.toNat + (s' - s).toNat by omega, h4]; rfl
  -- a least one
  have hex : ∃ r : Int, 1 ≤ r ∧ r ≤ 16 ∧ drI n z t r = 0 ∧ ∀ x, 1 ≤ x → x < r → drI n z t x ≠ 0 := by
    have key : ∀ q : Nat, q ≤ 16 → (∃ r : Int, 1 ≤ r ∧ r ≤ 16 ∧ drI n z t r = 0 ∧ ∀ x, 1 ≤ x → x < r → drI n z t x ≠ 0) ∨ ∀ x : Int, 1 ≤ x → x ≤ q → drI n z t x ≠ 0 := by
      intro q
      induction q with
      | zero => intro _; exact .inr (fun x h1 h2 => by omega)
      | succ q ih =>
        intro hq
        rcases ih (by omega) with h1 | h1
        · exact .inl h1
        · by_cases c : drI n z t ((q + 1 : Nat) : Int) = 0
          · exact .inl ⟨((q + 1 : Nat) : Int), by omega, by omega, c, fun x h2 h3 => h1 x h2 (by omega)⟩
          · refine .inr (fun x h2 h3 => ?_)
            by_cases e : x = ((q + 1 : Nat) : Int)
            · rw [e]; exact c
            · exact h1 x h2 (by omega)
    rcases key 16 (Nat.le_refl _) with h1 | h1
    · exact h1
    · exact absurd (drI_16 h) (h1 16 (by omega) (by omega))
  obtain ⟨r, h1, h2, h3, h4⟩ := hex
  rw [lsI_at h h1 h2 h3 h4]
  refine ⟨h1, h2, ?_, fun s hs1 hs2 => ⟨fun h0 => ?_, fun hr => hup r s h1 hr hs2 h3⟩⟩
  · by_cases c : r ≤ 1
    · exact .inl c
    · refine .inr (Int.not_lt.1 fun hlt => ?_)
      exact h4 (if (n : Int) ≤ 1 then 1 else n) (by split <;> omega) (by split <;> omega) (hz _ (by split <;> omega) (by split <;> omega) (by split <;> omega))
  · exact Int.not_lt.1 fun hlt => h4 s hs1 hlt h0

/-! As many are served as are not dropped: those are chosen. -/
def kpS (t : Int) (m : Nat) (z : Nat → Int) : Nat → Nat
  | 0 => 0
  | k + 1 => kpS t m z k + if svO t m z k = -1 then 0 else 2 ^ k
theorem kpS_lt {t : Int} {m : Nat} {z : Nat → Int} : ∀ k, kpS t m z k < 2 ^ k
  | 0 => by show 0 < 1; omega
  | k + 1 => by
    have := kpS_lt (t := t) (m := m) (z := z) k
    have e : 2 ^ (k + 1) = 2 ^ k * 2 := Nat.pow_succ 2 k
    show kpS t m z k + (if _ then _ else _) < 2 ^ (k + 1)
    rw [e]
    obtain ⟨q, hq⟩ : ∃ q, q = 2 ^ k := ⟨_, rfl⟩
    rw [← hq] at this ⊢
    split <;> omega
theorem kpS_bit {t : Int} {m : Nat} {z : Nat → Int} (n : Nat) : ∀ k, k < n → (kpS t m z n / 2 ^ k % 2 = 1 ↔ svO t m z k ≠ -1) := by
  induction n with
  | zero => intro k hk; exact absurd hk (by omega)
  | succ n ih =>
    intro k hk
    have hlt := kpS_lt (t := t) (m := m) (z := z) n
    show ((kpS t m z n + (if _ then _ else _)) / 2 ^ k % 2 = 1 ↔ _)
    by_cases e : k = n
    · subst e
      by_cases c : svO t m z k = -1
      · rw [if_pos c, Nat.add_zero, Nat.div_eq_of_lt hlt]
        exact ⟨fun h => absurd h (by decide), fun h => absurd c h⟩
      · rw [if_neg c, Nat.add_div_right _ (Nat.two_pow_pos k), Nat.div_eq_of_lt hlt]
        exact ⟨fun _ => c, fun _ => rfl⟩
    · by_cases c : svO t m z n = -1
      · rw [if_pos c, Nat.add_zero]; exact ih k (by omega)
      · rw [if_neg c]
        have hp : 2 ^ n = 2 ^ k * (2 * 2 ^ (n - k - 1)) := by rw [← Nat.pow_succ', ← Nat.pow_add, show k + (n - k - 1).succ = n by omega]
        rw [hp, Nat.add_mul_div_left _ _ (Nat.two_pow_pos k), Nat.add_mul_mod_self_left]
        exact ih k (by omega)
theorem kp_run {t : Int} (ht0 : 0 ≤ t) {m n : Nat} {z : Nat → Int} (hI : ImP n z) {s : Nat} (hb : ∀ k, k < n → (s / 2 ^ k % 2 = 1 ↔ svO t m z k ≠ -1)) : ∀ k, k ≤ n →
    pkN s k + drK t m z k = k ∧ ∀ Z : Nat → Int, (∀ j, j < pkN s k * 2 → Z j = pkZ s z k j) → svF t m Z (pkN s k) = svF t m z k ∧ ∀ i, i < pkN s k → svO t m Z i ≠ -1
  | 0, _ => ⟨rfl, fun Z _ => ⟨rfl, fun i hi => absurd hi (by simp [pkN])⟩⟩
  | k + 1, hk => by
    obtain ⟨h1, h2⟩ := kp_run ht0 hI hb k (by omega)
    obtain ⟨a0, -, -, -⟩ := hI.at (k := k) (by omega)
    have hge := svB_ge (t := t) (m := m) (z := z) k
    have hdr : drK t m z (k + 1) = drK t m z k + if svO t m z k = -1 then 1 else 0 := rfl
    by_cases c : svO t m z k = -1
    · have cb : ¬ s / 2 ^ k % 2 = 1 := fun h => (hb k (by omega)).1 h c
      have hd : z (k * 2) + t < svB t m z k := Classical.byContradiction fun hn => by
        rw [svO_take hn] at c
        omega
      rw [pkN_no cb, pkZ_no cb, hdr, if_pos c]
      refine ⟨by omega, fun Z hZ => ?_⟩
      obtain ⟨e1, e2⟩ := h2 Z hZ
      exact ⟨by rw [e1, svF_drop hd], e2⟩
    · have cb : s / 2 ^ k % 2 = 1 := (hb k (by omega)).2 c
      have hd : ¬ z (k * 2) + t < svB t m z k := fun h => c (svO_drop h)
      rw [pkN_yes cb, hdr, if_neg c]
      refine ⟨by omega, fun Z hZ => ?_⟩
      have hZ' : ∀ j, j < pkN s k * 2 → Z j = pkZ s z k j := fun j hj => by rw [hZ j (by omega), pkZ_yes cb, if_neg (by omega), if_neg (by omega)]
      have z0 : Z (pkN s k * 2) = z (k * 2) := by rw [hZ _ (by omega), pkZ_yes cb, if_pos rfl]
      have z1 : Z (pkN s k * 2 + 1) = z (k * 2 + 1) := by rw [hZ _ (by omega), pkZ_yes cb, if_neg (by omega), if_pos rfl]
      obtain ⟨e1, e2⟩ := h2 Z hZ'
      have eB : svB t m Z (pkN s k) = svB t m z k := by unfold svB; rw [e1, z0]
      have hd' : ¬ Z (pkN s k * 2) + t < svB t m Z (pkN s k) := by rw [z0, eB]; exact hd
      refine ⟨funext fun j => ?_, fun i hi => ?_⟩
      · rw [svF_take hd', svF_take hd, e1, eB, z1]
      · by_cases e : i = pkN s k
        · subst e
          rw [svO_take hd', eB]
          omega
        · exact e2 i (by omega)
/-- As many can be chosen as are not dropped. -/
theorem ms_ge {n : Nat} {z : Nat → Int} {t s : Int} (h : SvP n z t s) (hn : n ≤ 10) : (n : Int) - drI n z t s ≤ msI n z t s := by
  rw [msI_yes h hn, drI_yes h]
  obtain ⟨h1, h2⟩ := kp_run h.2.1.1 h.1 (m := s.toNat) (fun k hk => kpS_bit n k hk) n (Nat.le_refl _)
  obtain ⟨-, h3⟩ := h2 (pkZ (kpS t s.toNat z n) z n) (fun j _ => rfl)
  have h4 := msK_ge (n := n) (z := z) (t := t) (m := s.toNat) (2 ^ n) (kpS t s.toNat z n) (kpS_lt n) ((drK_zero_iff _).2 h3)
  omega

/-! No more are looked at than there are operators. -/
/-- How many of the first k are looked at at the time T. -/
def bsy (t : Int) (m : Nat) (z : Nat → Int) (T : Int) : Nat → Nat
  | 0 => 0
  | k + 1 => bsy t m z T k + if 0 ≤ svO t m z k ∧ svO t m z k ≤ T ∧ T < svO t m z k + z (k * 2 + 1) then 1 else 0
theorem cnt_not {f : Nat → Int} {x : Int} : ∀ m, cnt f x m ≤ m := cnt_le
theorem bsy_le {t : Int} {m n : Nat} (hm : 0 < m) {z : Nat → Int} (hI : ImP n z) (T : Int) (hT : 0 ≤ T) : ∀ k, k ≤ n → bsy t m z T k + cnt (svF t m z k) T m ≤ m
  | 0, _ => by have := cnt_le (f := svF t m z 0) (x := T) m; show 0 + _ ≤ _; omega
  | k + 1, hk => by
    have ih := bsy_le (t := t) hm hI T hT k (by omega)
    obtain ⟨a0, a1, n0, n1⟩ := hI.at (k := k) (by omega)
    have hge := svB_ge (t := t) (m := m) (z := z) k
    have hbs : bsy t m z T (k + 1) = bsy t m z T k + if 0 ≤ svO t m z k ∧ svO t m z k ≤ T ∧ T < svO t m z k + z (k * 2 + 1) then 1 else 0 := rfl
    by_cases hd : z (k * 2) + t < svB t m z k
    · rw [hbs, svF_drop hd, svO_drop hd, if_neg (by omega)]
      exact ih
    · have hw := whoK_lt' (f := svF t m z k) hm
      have u := cnt_upd (x := T) (svF_take hd) m hw
      have hbm : svF t m z k (whoK (svF t m z k) m) ≤ svB t m z k := by unfold svB beg; split <;> omega
      rw [hbs, svO_take hd]
      by_cases c1 : svB t m z k ≤ T
      · by_cases c2 : T < svB t m z k + z (k * 2 + 1)
        · rw [if_pos ⟨by omega, c1, c2⟩]
          rw [if_pos (by omega), if_neg (by omega)] at u
          omega
        · rw [if_neg (fun h => c2 h.2.2)]
          rw [if_pos (by omega), if_pos (by omega)] at u
          omega
      · rw [if_neg (fun h => c1 h.2.1)]
        rw [if_neg (show ¬ svB t m z k + z (k * 2 + 1) ≤ T by omega)] at u
        omega
theorem bsy_ok {t : Int} {m n : Nat} (hm : 0 < m) {z : Nat → Int} (hI : ImP n z) {i : Nat} (hT : 0 ≤ svO t m z i) : bsy t m z (svO t m z i) n ≤ m := by
  have := bsy_le (t := t) hm hI (svO t m z i) hT n (Nat.le_refl _)
  omega
/-- Within its wait. -/
theorem svO_in {t : Int} {m n : Nat} {z : Nat → Int} (hI : ImP n z) {k : Nat} (hk : k < n) (h : 0 ≤ svO t m z k) : z (k * 2) ≤ svO t m z k ∧ svO t m z k ≤ z (k * 2) + t := by
  have hge := svB_ge (t := t) (m := m) (z := z) k
  by_cases hd : z (k * 2) + t < svB t m z k
  · rw [svO_drop hd] at h; omega
  · rw [svO_take hd]; omega

end Go.Proofs.Ytkdlhapbbnggoaa
