/- Numbers and their decimal numerals: plain facts; no program is named here. -/
import Derived.WalkKit
import Derived.Lib.ItoaNum
import Derived.Lib.AtoiAll
import Derived.Lib.AtoiAllCases
namespace Go.Proofs.YtopkdkehkdhmgabDoor
open Go.RowKit

def isD (c : UInt8) : Prop := 48 ≤ c.toNat ∧ c.toNat ≤ 57
def numFrom (a : Nat) (l : List UInt8) : Nat := l.foldl (fun a c => 10 * a + (c.toNat - 48)) a
/-- The number that digits spell. -/
def numOf (l : List UInt8) : Nat := numFrom 0 l

theorem numFrom_ge (l : List UInt8) : ∀ a, a ≤ numFrom a l := by
  induction l with
  | nil => intro a; exact Nat.le_refl _
  | cons c l ih => intro a; exact Nat.le_trans (by omega) (ih (10 * a + (c.toNat - 48)))
theorem numOf_snoc (l : List UInt8) (c : UInt8) : numOf (l ++ [c]) = 10 * numOf l + (c.toNat - 48) := by simp [numOf, numFrom]
theorem numOf_lt (l : List UInt8) : (∀ c ∈ l, isD c) → numOf l < 10 ^ l.length := by
  suffices h : ∀ (l : List UInt8) (a k : Nat), (∀ c ∈ l, isD c) → a < 10 ^ k → numFrom a l < 10 ^ (k + l.length) by
    intro hl
    have := h l 0 0 hl (by decide)
    simpa [numOf] using this
  intro l
  induction l with
  | nil => intro a k _ ha; simpa [numFrom] using ha
  | cons c l ih =>
    intro a k hl ha
    have hc : isD c := hl c (by simp)
    have := ih (10 * a + (c.toNat - 48)) (k + 1) (fun x hx => hl x (by simp [hx])) (by rw [Nat.pow_succ]; have := hc.2; omega)
    rw [List.length_cons]
    rw [show k + (l.length + 1) = k + 1 + l.length by omega]
    exact this

theorem dec_rec {N : Nat} (h : ¬ N < 10) : Lib.decDigits N = Lib.decDigits (N / 10) ++ [UInt8.ofNat (48 + N % 10)] := by
  conv => lhs; rw [Lib.decDigits, dif_neg h]
theorem dig_nat (x : Nat) (h : x < 10) : (UInt8.ofNat (48 + x)).toNat = 48 + x := by simp only [UInt8.toNat_ofNat']; omega
theorem dec_facts (N : Nat) : (∀ c ∈ Lib.decDigits N, isD c) ∧ numOf (Lib.decDigits N) = N ∧ Lib.decDigits N ≠ [] := by
  induction N using Nat.strongRecOn with
  | _ N ih =>
    by_cases h : N < 10
    · rw [Lib.decDigits_one h]
      have := dig_nat N h
      refine ⟨fun c hc => ?_, ?_, by simp⟩
      · obtain rfl : c = UInt8.ofNat (48 + N) := by simpa using hc
        unfold isD; omega
      · simp only [numOf, numFrom, List.foldl_cons, List.foldl_nil]; omega
    · obtain ⟨i1, i2, i3⟩ := ih (N / 10) (by omega)
      have hd := dig_nat (N % 10) (by omega)
      rw [dec_rec h]
      refine ⟨fun c hc => ?_, ?_, by simp⟩
      · rcases List.mem_append.1 hc with hc | hc
        · exact i1 c hc
        · obtain rfl : c = UInt8.ofNat (48 + N % 10) := by simpa using hc
          unfold isD; omega
      · rw [numOf_snoc, i2, hd]; omega
theorem dec_len : ∀ (k N : Nat), N < 10 ^ (k + 1) → (Lib.decDigits N).length ≤ k + 1 := by
  intro k
  induction k with
  | zero => intro N h; rw [Lib.decDigits_one (by simpa using h)]; simp
  | succ k ih =>
    intro N h
    by_cases h9 : N < 10
    · rw [Lib.decDigits_one h9]; simp
    · rw [dec_rec h9, List.length_append]
      have := ih (N / 10) (by rw [Nat.pow_succ] at h; exact Nat.div_lt_of_lt_mul (by rw [Nat.mul_comm]; exact h))
      simp only [List.length_cons, List.length_nil]; omega
theorem parse_digits (l : List UInt8) : ∀ a, (∀ c ∈ l, isD c) → numFrom a l ≤ 10000000000 → Lib.parseUint10 a l = .ok (numFrom a l) := by
  induction l with
  | nil => intro a _ _; rfl
  | cons c l ih =>
    intro a hl hb
    have hc : isD c := hl c (by simp)
    have e : numFrom a (c :: l) = numFrom (10 * a + (c.toNat - 48)) l := rfl
    rw [e] at hb ⊢
    have h1 := numFrom_ge l (10 * a + (c.toNat - 48))
    have hu := hc.1
    have hv := hc.2
    rw [Lib.parseUint10, if_pos (show 48 ≤ c.toNat ∧ c.toNat ≤ 57 from hc), if_neg (by omega), if_neg (by omega), show a * 10 + (c.toNat - 48) = 10 * a + (c.toNat - 48) by omega]
    exact ih _ (fun x hx => hl x (by simp [hx])) hb
/-- Digits are read as the number that they spell. -/
theorem atoi_digits {l : List UInt8} (hl : ∀ c ∈ l, isD c) (hne : l ≠ []) (hb : numOf l ≤ 10000000000) : Lib.atoiAll l = .ok (numOf l : Int) := by
  cases l with
  | nil => exact absurd rfl hne
  | cons c r =>
    have hc : isD c := hl c (by simp)
    have h1 := hc.1
    have h2 := hc.2
    have hp : Lib.parseMag (c :: r) = .ok (numOf (c :: r)) := by
      unfold Lib.parseMag
      rw [if_neg (by simp)]
      exact parse_digits _ 0 hl hb
    rw [Lib.atoiAll_plain c r (by omega) (by omega), hp]
    unfold Lib.signless
    simp only
    rw [if_neg (by omega)]
theorem atoi_dec (N : Nat) (h : N ≤ 9999999999) : Lib.atoiAll (Lib.decDigits N) = .ok (N : Int) := by
  obtain ⟨h1, h2, h3⟩ := dec_facts N
  have := atoi_digits h1 h3 (by omega)
  rw [this, h2]
theorem itoa_nat (N : Nat) : Lib.itoa (N : Int) = Lib.decDigits N := by unfold Lib.itoa; rw [if_neg (by omega), Int.toNat_natCast]

end Go.Proofs.YtopkdkehkdhmgabDoor
