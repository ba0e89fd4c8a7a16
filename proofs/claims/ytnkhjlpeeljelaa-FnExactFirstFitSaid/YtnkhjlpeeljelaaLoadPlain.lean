/- The plain results of the chapter on containers: limits, pieces, bounds and sides. -/
import Derived.Test.YtnkhjlpeeljelaaIn
namespace Go.Proofs.Ytnkhjlpeeljelaa

/-- The limits W, C may be used. -/
def liB (W C : Int) : Bool := inB 60 2000 W && inB 1 40 C
/-- Piece k of z (bag, weight, class) may be. -/
def wcOk (z : Nat → Int) (k : Nat) : Prop := (1 ≤ z (k * 3 + 1) ∧ z (k * 3 + 1) ≤ 60) ∧ (0 ≤ z (k * 3 + 2) ∧ z (k * 3 + 2) ≤ 5)
instance (z : Nat → Int) (k : Nat) : Decidable (wcOk z k) := inferInstanceAs (Decidable ((1 ≤ z (k * 3 + 1) ∧ z (k * 3 + 1) ≤ 60) ∧ (0 ≤ z (k * 3 + 2) ∧ z (k * 3 + 2) ≤ 5)))
def pcsOk (n : Nat) (z : Nat → Int) : Prop := n ≤ 40 ∧ (∀ k, k < n → wcOk z k) ∧ (∀ k, k < n → 1 ≤ z (k * 3)) ∧ ∀ i, i < n → ∀ k, k < i → z (k * 3) ≠ z (i * 3)
instance (n : Nat) (z : Nat → Int) : Decidable (pcsOk n z) := inferInstanceAs (Decidable (n ≤ 40 ∧ (∀ k, k < n → wcOk z k) ∧ (∀ k, k < n → 1 ≤ z (k * 3)) ∧ ∀ i, i < n → ∀ k, k < i → z (k * 3) ≠ z (i * 3)))

/-- The weight and the number of the pieces of a class among the first n. -/
def clW (z : Nat → Int) (c : Int) : Nat → Int
  | 0 => 0
  | k + 1 => if z (k * 3 + 2) = c then clW z c k + z (k * 3 + 1) else clW z c k
def clC (z : Nat → Int) (c : Int) : Nat → Int
  | 0 => 0
  | k + 1 => if z (k * 3 + 2) = c then clC z c k + 1 else clC z c k
def prt (x y : Int) : Int := (x + y - 1).tdiv y
def clB (W C : Int) (n : Nat) (z : Nat → Int) (c : Int) : Int := if prt (clW z c n) W ≤ prt (clC z c n) C then prt (clC z c n) C else prt (clW z c n) W
def bbS (W C : Int) (n : Nat) (z : Nat → Int) : Nat → Int
  | 0 => 0
  | c + 1 => bbS W C n z c + clB W C n z (c : Int)
def bbI (W C : Int) (n : Nat) (z : Nat → Int) : Int := if liB W C = true ∧ pcsOk n z then bbS W C n z 6 else -1

theorem clW_in {z : Nat → Int} {n : Nat} (h : ∀ k, k < n → wcOk z k) (c : Int) : 0 ≤ clW z c n ∧ clW z c n ≤ n * 60 := by
  induction n with
  | zero => simp [clW]
  | succ n ih =>
    have h1 := ih (fun k hk => h k (by omega))
    have h2 := (h n (by omega)).1
    unfold clW
    split <;> omega
theorem clC_in (z : Nat → Int) (n : Nat) (c : Int) : 0 ≤ clC z c n ∧ clC z c n ≤ n := by
  induction n with
  | zero => simp [clC]
  | succ n ih =>
    unfold clC
    split <;> omega
theorem prt_in {x y : Int} (hx : 0 ≤ x) (hy : 1 ≤ y) : 0 ≤ prt x y ∧ prt x y ≤ x := by
  unfold prt
  rw [Int.tdiv_eq_ediv_of_nonneg (by omega)]
  refine ⟨Int.ediv_nonneg (by omega) (by omega), ?_⟩
  have h1 : x + y - 1 < (x + 1) * y := by
    have : 0 ≤ x * (y - 1) := Int.mul_nonneg hx (by omega)
    rw [Int.add_mul]
    rw [Int.mul_sub] at this
    omega
  have := Int.ediv_lt_of_lt_mul (by omega) h1
  omega
theorem clB_in {W C : Int} {n : Nat} {z : Nat → Int} (hl : liB W C = true) (hp : pcsOk n z) (c : Int) : 0 ≤ clB W C n z c ∧ clB W C n z c ≤ 2400 := by
  have hl' : inB 60 2000 W = true ∧ inB 1 40 C = true := by simpa [liB] using hl
  have h1 := inB_iff.1 hl'.1
  have h2 := inB_iff.1 hl'.2
  have h3 := clW_in hp.2.1 c
  have h4 := clC_in z n c
  have h5 := prt_in h3.1 (show 1 ≤ W by omega)
  have h6 := prt_in h4.1 (show 1 ≤ C by omega)
  have h7 := hp.1
  unfold clB
  split <;> omega
theorem bbS_in {W C : Int} {n : Nat} {z : Nat → Int} (hl : liB W C = true) (hp : pcsOk n z) (c : Nat) : 0 ≤ bbS W C n z c ∧ bbS W C n z c ≤ c * 2400 := by
  induction c with
  | zero => simp [bbS]
  | succ c ih =>
    have := clB_in hl hp (c : Int)
    unfold bbS
    omega

/-- The weights of the first n boxes, those on the left minus the others. -/
def sgn (z : Nat → Int) (b : Nat → Bool) : Nat → Int
  | 0 => 0
  | k + 1 => if b k = true then sgn z b k + z k else sgn z b k - z k
def wsOk (lo : Int) (n : Nat) (z : Nat → Int) : Prop := n ≤ 12 ∧ ∀ k, k < n → lo ≤ z k ∧ z k ≤ 2000
instance (lo : Int) (n : Nat) (z : Nat → Int) : Decidable (wsOk lo n z) := inferInstanceAs (Decidable (n ≤ 12 ∧ ∀ k, k < n → lo ≤ z k ∧ z k ≤ 2000))
def sdI (n : Nat) (z : Nat → Int) (m : Nat) (b : Nat → Bool) : Int := if n = m ∧ wsOk (-2000) n z then sgn z b n else 0
theorem sgn_in {z : Nat → Int} {n : Nat} (b : Nat → Bool) (h : ∀ k, k < n → -2000 ≤ z k ∧ z k ≤ 2000) : -(n * 2000 : Int) ≤ sgn z b n ∧ sgn z b n ≤ n * 2000 := by
  induction n with
  | zero => simp [sgn]
  | succ n ih =>
    have h1 := ih (fun k hk => h k (by omega))
    have h2 := h n (by omega)
    unfold sgn
    split <;> omega
theorem sgn_congr {z : Nat → Int} {n : Nat} {b b' : Nat → Bool} (h : ∀ k, k < n → b k = b' k) : sgn z b n = sgn z b' n := by
  induction n with
  | zero => rfl
  | succ n ih =>
    unfold sgn
    rw [ih (fun k hk => h k (by omega)), h n (by omega)]

/-- The side of box i in the way with this number. -/
def sdl (n way i : Nat) : Bool := decide (way / 2 ^ (n - 1 - i) % 2 = 0)
def amt (n : Nat) (z : Nat → Int) (way : Nat) : Int := if sgn z (sdl n way) n < 0 then -(sgn z (sdl n way) n) else sgn z (sdl n way) n
def smZ (z : Nat → Int) : Nat → Int
  | 0 => 0
  | k + 1 => smZ z k + z k
theorem sgn_left {z : Nat → Int} {n : Nat} {b : Nat → Bool} (h : ∀ k, k < n → b k = true) : sgn z b n = smZ z n := by
  induction n with
  | zero => rfl
  | succ n ih =>
    unfold sgn smZ
    rw [if_pos (h n (by omega)), ih (fun k hk => h k (by omega))]
theorem smZ_in {z : Nat → Int} {n : Nat} (h : ∀ k, k < n → 0 ≤ z k ∧ z k ≤ 2000) : 0 ≤ smZ z n ∧ smZ z n ≤ n * 2000 := by
  induction n with
  | zero => simp [smZ]
  | succ n ih =>
    have h1 := ih (fun k hk => h k (by omega))
    have h2 := h n (by omega)
    unfold smZ
    omega
theorem amt_zero {n : Nat} {z : Nat → Int} (h : wsOk 0 n z) : amt n z 0 = smZ z n := by
  have h1 : sgn z (sdl n 0) n = smZ z n := sgn_left (fun k _ => by simp [sdl])
  have h2 := smZ_in h.2
  unfold amt
  rw [h1, if_neg (by omega)]
theorem amt_in {n : Nat} {z : Nat → Int} (h : wsOk (-2000) n z) (way : Nat) : 0 ≤ amt n z way ∧ amt n z way ≤ 24000 := by
  have h1 := sgn_in (sdl n way) h.2
  have h2 := h.1
  unfold amt
  split <;> omega
theorem wsOk.low {n : Nat} {z : Nat → Int} (h : wsOk 0 n z) : wsOk (-2000) n z := ⟨h.1, fun k hk => ⟨by have := h.2 k hk; omega, (h.2 k hk).2⟩⟩

/-- The least of a and the first m values of f. -/
def mnW (f : Nat → Int) (a : Int) : Nat → Int
  | 0 => a
  | k + 1 => if f k < mnW f a k then f k else mnW f a k
theorem mnW_start {f : Nat → Int} {a : Int} (h : f 0 ≤ a) (m : Nat) : mnW f a (m + 1) = mnW f (f 0) (m + 1) := by
  induction m with
  | zero =>
    show (if f 0 < a then f 0 else a) = (if f 0 < f 0 then f 0 else f 0)
    split <;> split <;> omega
  | succ m ih =>
    show (if f (m + 1) < mnW f a (m + 1) then _ else mnW f a (m + 1)) = (if f (m + 1) < mnW f (f 0) (m + 1) then _ else mnW f (f 0) (m + 1))
    rw [ih]
theorem mnW_le {f : Nat → Int} {a : Int} (m : Nat) : mnW f a m ≤ a ∧ ∀ k, k < m → mnW f a m ≤ f k := by
  induction m with
  | zero => exact ⟨Int.le_refl _, fun k hk => absurd hk (by omega)⟩
  | succ m ih =>
    refine ⟨?_, fun k hk => ?_⟩
    · unfold mnW; have := ih.1; split <;> omega
    · by_cases e : k = m
      · subst e; unfold mnW; split <;> omega
      · have := ih.2 k (by omega); unfold mnW; split <;> omega
theorem mnW_mem {f : Nat → Int} {a : Int} (m : Nat) : mnW f a m = a ∨ ∃ k, k < m ∧ mnW f a m = f k := by
  induction m with
  | zero => exact .inl rfl
  | succ m ih =>
    unfold mnW
    split
    · exact .inr ⟨m, by omega, rfl⟩
    · rcases ih with h | ⟨k, hk, h⟩
      · exact .inl h
      · exact .inr ⟨k, by omega, h⟩
theorem least_of {P : Nat → Prop} (h : ∃ k, P k) : ∃ k, P k ∧ ∀ j, j < k → ¬ P j := by
  obtain ⟨k, hk⟩ := h
  induction k using Nat.strongRecOn with
  | ind k ih =>
    by_cases h : ∃ j, j < k ∧ P j
    · obtain ⟨j, hj, hp⟩ := h
      exact ih j hj hp
    · exact ⟨k, hk, fun j hj hp => h ⟨j, hj, hp⟩⟩
def ldV (n : Nat) (z : Nat → Int) : Int := mnW (amt n z) (smZ z n) (2 ^ n)
def ldI (n : Nat) (z : Nat → Int) : Int := if wsOk 0 n z then ldV n z else -1
theorem ldV_far {n : Nat} {z : Nat → Int} (h : wsOk 0 n z) : mnW (amt n z) 24000 (2 ^ n) = ldV n z := by
  obtain ⟨m, hm⟩ : ∃ m, 2 ^ n = m + 1 := ⟨2 ^ n - 1, by have := Nat.two_pow_pos n; omega⟩
  unfold ldV
  rw [hm, mnW_start (by have := (amt_in h.low 0).2; omega), amt_zero h]
theorem ldV_in {n : Nat} {z : Nat → Int} (h : wsOk 0 n z) : 0 ≤ ldV n z ∧ ldV n z ≤ 24000 := by
  rw [← ldV_far h]
  refine ⟨?_, (mnW_le _).1⟩
  rcases mnW_mem (f := amt n z) (a := 24000) (2 ^ n) with e | ⟨k, -, e⟩
  · rw [e]; decide
  · rw [e]; exact (amt_in h.low k).1
/-- The first way that is as even as the least difference. -/
theorem ldV_first {n : Nat} {z : Nat → Int} (h : wsOk 0 n z) : ∃ k, k < 2 ^ n ∧ amt n z k = ldV n z ∧ ∀ j, j < k → amt n z j ≠ ldV n z := by
  have hex : ∃ k, k < 2 ^ n ∧ amt n z k = ldV n z := by
    rcases mnW_mem (f := amt n z) (a := smZ z n) (2 ^ n) with e | ⟨k, hk, e⟩
    · exact ⟨0, Nat.two_pow_pos n, by rw [amt_zero h]; exact e.symm⟩
    · exact ⟨k, hk, e.symm⟩
  obtain ⟨k, hk, hmin⟩ := least_of hex
  exact ⟨k, hk.1, hk.2, fun j hj e => hmin j hj ⟨by omega, e⟩⟩
/-- The number of the way that Lay tells; 0 where there is none. -/
noncomputable def layK (n : Nat) (z : Nat → Int) : Nat := if h : ∃ k, k < 2 ^ n ∧ amt n z k = ldV n z ∧ ∀ j, j < k → amt n z j ≠ ldV n z then h.choose else 0
theorem layK_spec {n : Nat} {z : Nat → Int} (h : wsOk 0 n z) : layK n z < 2 ^ n ∧ amt n z (layK n z) = ldV n z ∧ ∀ j, j < layK n z → amt n z j ≠ ldV n z := by
  unfold layK
  rw [dif_pos (ldV_first h)]
  exact (ldV_first h).choose_spec

end Go.Proofs.Ytnkhjlpeeljelaa
