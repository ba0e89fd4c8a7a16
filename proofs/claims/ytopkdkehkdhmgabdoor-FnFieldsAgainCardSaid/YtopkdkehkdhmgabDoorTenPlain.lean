/- Ten digits of a number: plain facts; no program is named here. -/
import Derived.WalkKit
import Derived.Lib.ItoaNum
import Derived.Lib.Repeat
namespace Go.Proofs.YtopkdkehkdhmgabDoor
open Go.RowKit

/-- The ten digits of a number. -/
def digs (N : Nat) : List UInt8 := (List.range 10).map fun j => UInt8.ofNat (48 + N / 10 ^ (9 - j) % 10)
/-- Ten cells, of which those from m on hold their digits. -/
def part (N m : Nat) : List Value := (List.range 10).map fun j => if m ≤ j then .int .u8 ((48 + N / 10 ^ (9 - j) % 10 : Nat) : Int) else .int .u8 0

theorem digs_length (N : Nat) : (digs N).length = 10 := by simp [digs]
theorem part_start (N : Nat) : part N 10 = List.replicate 10 (.int .u8 0) := rfl
theorem part_step (N m : Nat) (_h : m < 10) : (part N (m + 1)).set m (.int .u8 ((48 + N / 10 ^ (9 - m) % 10 : Nat) : Int)) = part N m := by
  apply List.ext_getElem?
  intro j
  by_cases hj : j < 10
  · simp only [part, List.getElem?_set, List.length_map, List.length_range, List.getElem?_map, List.getElem?_range hj, Option.map_some]
    by_cases e : m = j
    · subst e; simp [hj]
    · rw [if_neg e]
      by_cases k : m + 1 ≤ j
      · rw [if_pos k, if_pos (by omega)]
      · rw [if_neg k, if_neg (by omega)]
  · rw [List.getElem?_eq_none (by simp [part]; omega), List.getElem?_eq_none (by simp [part]; omega)]
theorem part_end (N : Nat) : part N 0 = (digs N).map fun b => Value.int .u8 (b.toNat : Int) := by
  simp only [part, digs, List.map_map]
  apply List.map_congr_left
  intro j _
  have h : N / 10 ^ (9 - j) % 10 < 10 := Nat.mod_lt _ (by decide)
  simp only [Function.comp, Nat.zero_le, if_true]
  congr 2
  simp only [UInt8.toNat_ofNat']
  omega
theorem div_step (N k : Nat) : N / 10 ^ k / 10 = N / 10 ^ (k + 1) := by rw [Nat.div_div_eq_div_mul, Nat.pow_succ]

theorem repeat_zero (c : Nat) : Lib.repeatL [48] c = List.replicate c 48 := by
  induction c with
  | zero => rfl
  | succ c ih => rw [Lib.repeatL, ih]; rfl

/-- Leading zeros and the numeral are the ten digits. -/
theorem zeros_numeral (N : Nat) (h : N < 10 ^ 10) : (Lib.decDigits N).length ≤ 10 ∧ Lib.repeatL [48] (10 - (Lib.decDigits N).length) ++ Lib.decDigits N = digs N := by
  have hd : (Lib.decDigits N).length = Lib.nDigits N := Lib.decDigits_length N
  have hlt := Lib.lt_pow_nDigits N
  have hpos := Lib.nDigits_pos N
  have hle : Lib.nDigits N ≤ 10 := by
    rcases Nat.lt_or_ge 10 (Lib.nDigits N) with hb | hb
    · exfalso
      have hu : ∀ u : Nat, u < 10 ^ 10 → Lib.nDigits u ≤ 10 := by
        intro u hu
        have : ∀ k u : Nat, u < 10 ^ (k + 1) → Lib.nDigits u ≤ k + 1 := by
          intro k
          induction k with
          | zero => intro u hu; rw [Lib.nDigits_small (by simpa using hu)]; omega
          | succ k ih =>
            intro u hu
            by_cases h9 : u < 10
            · rw [Lib.nDigits_small h9]; omega
            · rw [Lib.nDigits_big h9]
              have := ih (u / 10) (by rw [Nat.pow_succ] at hu; exact Nat.div_lt_of_lt_mul (by rw [Nat.mul_comm]; exact hu))
              omega
        exact this 9 u hu
      have := hu N h
      omega
    · exact hb
  refine ⟨by omega, ?_⟩
  rw [repeat_zero, hd, Lib.decDigits_eq]
  apply List.ext_getElem?
  intro j
  by_cases hj : j < 10
  · have r1 : (digs N)[j]? = some (UInt8.ofNat (48 + N / 10 ^ (9 - j) % 10)) := by simp [digs, hj]
    rw [r1, List.getElem?_append]
    by_cases hz : j < 10 - Lib.nDigits N
    · rw [if_pos (by simpa using hz), List.getElem?_replicate, if_pos hz]
      have hp : N < 10 ^ (9 - j) := Nat.lt_of_lt_of_le hlt (Nat.pow_le_pow_right (by decide) (by omega))
      rw [Nat.div_eq_of_lt hp]
      rfl
    · rw [if_neg (by simpa using hz)]
      simp only [List.length_replicate, List.getElem?_map, List.getElem?_range (show j - (10 - Lib.nDigits N) < Lib.nDigits N by omega), Option.map_some, Lib.dg]
      rw [show Lib.nDigits N - 1 - (j - (10 - Lib.nDigits N)) = 9 - j by omega]
  · rw [List.getElem?_eq_none (by simp; omega), List.getElem?_eq_none (by rw [digs_length]; omega)]

end Go.Proofs.YtopkdkehkdhmgabDoor
