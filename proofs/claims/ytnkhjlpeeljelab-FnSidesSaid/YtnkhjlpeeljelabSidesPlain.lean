/- Every way to lay boxes has a number; the way that Lay tells comes ahead of those that are as even. -/
import Derived.Test.YtnkhjlpeeljelabLoadPlain
namespace Go.Proofs.Ytnkhjlpeeljelab

/-- The number of the way b, of its first k boxes. -/
def wyN (b : Nat → Bool) : Nat → Nat
  | 0 => 0
  | k + 1 => 2 * wyN b k + (if b k = true then 0 else 1)
theorem wyN_lt (b : Nat → Bool) (k : Nat) : wyN b k < 2 ^ k := by
  induction k with
  | zero => simp [wyN]
  | succ k ih => unfold wyN; rw [Nat.pow_succ]; split <;> omega
theorem wyN_div (b : Nat → Bool) (k t : Nat) : wyN b (k + t) / 2 ^ t = wyN b k := by
  induction t with
  | zero => simp
  | succ t ih =>
    rw [Nat.pow_succ, Nat.mul_comm, ← Nat.div_div_eq_div_mul]
    rw [show wyN b (k + (t + 1)) / 2 = wyN b (k + t) from by
      show (2 * wyN b (k + t) + (if b (k + t) = true then 0 else 1)) / 2 = _
      split <;> omega]
    exact ih
theorem sdl_way (b : Nat → Bool) (n i : Nat) (hi : i < n) : sdl n (wyN b n) i = b i := by
  unfold sdl
  have h := wyN_div b (i + 1) (n - 1 - i)
  rw [show i + 1 + (n - 1 - i) = n from by omega] at h
  rw [h]
  show decide ((2 * wyN b i + (if b i = true then 0 else 1)) % 2 = 0) = b i
  cases b i
  · exact decide_eq_false (by simp)
  · exact decide_eq_true (by simp)
theorem top_same {n x y : Nat} (hx : x < 2 ^ n) (hy : y < 2 ^ n) (i : Nat) (hi : i ≤ n) (h : ∀ j, j < i → sdl n x j = sdl n y j) : x / 2 ^ (n - i) = y / 2 ^ (n - i) := by
  induction i with
  | zero => rw [Nat.sub_zero, Nat.div_eq_of_lt hx, Nat.div_eq_of_lt hy]
  | succ i ih =>
    have e := ih (by omega) (fun j hj => h j (by omega))
    have hb := h i (by omega)
    unfold sdl at hb
    rw [show n - 1 - i = n - (i + 1) from by omega] at hb
    have hb2 := decide_eq_decide.1 hb
    have hs : ∀ q : Nat, q / 2 ^ (n - i) = q / 2 ^ (n - (i + 1)) / 2 := fun q => by
      rw [Nat.div_div_eq_div_mul, ← Nat.pow_succ, show (n - (i + 1)).succ = n - i from by omega]
    rw [hs, hs] at e
    omega
theorem lay_ahead {n x y : Nat} (hx : x < 2 ^ n) (hy : y < 2 ^ n) (hxy : x ≤ y) {i : Nat} (hi : i < n) (h : ∀ j, j < i → sdl n x j = sdl n y j) (hne : sdl n x i ≠ sdl n y i) : sdl n x i = true := by
  have e := top_same hx hy i (by omega) h
  have hs : ∀ q : Nat, q / 2 ^ (n - i) = q / 2 ^ (n - 1 - i) / 2 := fun q => by
    rw [Nat.div_div_eq_div_mul, ← Nat.pow_succ, show (n - 1 - i).succ = n - i from by omega]
  rw [hs, hs] at e
  have hle : x / 2 ^ (n - 1 - i) ≤ y / 2 ^ (n - 1 - i) := Nat.div_le_div_right hxy
  unfold sdl at hne ⊢
  refine decide_eq_true ?_
  have h2 : ¬ (x / 2 ^ (n - 1 - i) % 2 = 0 ↔ y / 2 ^ (n - 1 - i) % 2 = 0) := fun hh => hne (decide_eq_decide.2 hh)
  omega
def absI (x : Int) : Int := if x < 0 then -x else x
/-- What FnEverySides asks, plainly. -/
theorem sides_law {n : Nat} {z : Nat → Int} (h : wsOk 0 n z) (b : Nat → Bool) :
    absI (sgn z (sdl n (layK n z)) n) = ldV n z ∧ ldV n z ≤ absI (sgn z b n) ∧
      (ldV n z = absI (sgn z b n) → ∀ i, i < n → (∀ j, j < i → sdl n (layK n z) j = b j) → sdl n (layK n z) i ≠ b i → sdl n (layK n z) i = true) := by
  have hK := layK_spec h
  have ha : amt n z (wyN b n) = absI (sgn z b n) := by
    show absI (sgn z (sdl n (wyN b n)) n) = _
    rw [sgn_congr (fun i hi => sdl_way b n i hi)]
  refine ⟨hK.2.1, ?_, fun heq i hi hj hne => ?_⟩
  · rw [← ha]
    exact (mnW_le (f := amt n z) (a := smZ z n) (2 ^ n)).2 _ (wyN_lt b n)
  · have hle : layK n z ≤ wyN b n := by
      rcases Nat.lt_or_ge (wyN b n) (layK n z) with hl | hl
      · exact absurd (ha.trans heq.symm) (hK.2.2 _ hl)
      · exact hl
    refine lay_ahead hK.1 (wyN_lt b n) hle hi (fun j hj2 => ?_) ?_
    · rw [sdl_way b n j (by omega)]; exact hj j hj2
    · rw [sdl_way b n i hi]; exact hne

end Go.Proofs.Ytnkhjlpeeljelab
