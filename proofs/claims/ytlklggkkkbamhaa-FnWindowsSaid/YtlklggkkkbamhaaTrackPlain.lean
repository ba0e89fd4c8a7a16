/- Elements that are expected and sights in plain words: element k is the numbers z (k * 3), z (k * 3 + 1), z (k * 3 + 2): its bag, its first and its last time; sight k is s (k * 2), s (k * 2 + 1): its time and its bag. -/
import Derived.ProofKit
import Derived.PlainAid
namespace Go.Proofs.Ytlklggkkkbamhaa

/-- Whether one of the first n elements has the bag. -/
def hasE (z : Nat → Int) (n : Nat) (b : Int) : Prop := ∃ j, j < n ∧ z (j * 3) = b
/-- Whether one of the first n sights has the bag. -/
def hasS (s : Nat → Int) (n : Nat) (b : Int) : Prop := ∃ j, j < n ∧ s (j * 2 + 1) = b

def okE (z : Nat → Int) (k : Nat) : Prop := 1 ≤ z (k * 3) ∧ ¬ hasE z k (z (k * 3)) ∧ 0 ≤ z (k * 3 + 1) ∧ z (k * 3 + 1) ≤ z (k * 3 + 2) ∧ z (k * 3 + 2) ≤ 100000
def ExP (n : Nat) (z : Nat → Int) : Prop := n ≤ 6 ∧ ∀ k, k < n → okE z k
open Classical in
noncomputable def exB (n : Nat) (z : Nat → Int) : Bool := decide (ExP n z)
theorem exB_yes {n : Nat} {z : Nat → Int} (h : ExP n z) : exB n z = true := by simp [exB, h]
theorem exB_no {n : Nat} {z : Nat → Int} (h : ¬ ExP n z) : exB n z = false := by simp [exB, h]
theorem exB_iff {n : Nat} {z : Nat → Int} : exB n z = true ↔ ExP n z := by simp [exB]
theorem exB_not {n : Nat} {z : Nat → Int} : exB n z = false ↔ ¬ ExP n z := by simp [exB]

/-- The time of the sight before number k; 0 for the first one. -/
def prT (s : Nat → Int) : Nat → Int
  | 0 => 0
  | k + 1 => s (k * 2)
def okS (s : Nat → Int) (k : Nat) : Prop := prT s k ≤ s (k * 2) ∧ s (k * 2) ≤ 100000 ∧ 0 ≤ s (k * 2 + 1) ∧ (s (k * 2 + 1) = 0 ∨ ¬ hasS s k (s (k * 2 + 1)))
def SiP (n : Nat) (s : Nat → Int) : Prop := n ≤ 6 ∧ ∀ k, k < n → okS s k
open Classical in
noncomputable def siB (n : Nat) (s : Nat → Int) : Bool := decide (SiP n s)
theorem siB_yes {n : Nat} {z : Nat → Int} (h : SiP n z) : siB n z = true := by simp [siB, h]
theorem siB_no {n : Nat} {z : Nat → Int} (h : ¬ SiP n z) : siB n z = false := by simp [siB, h]
theorem siB_iff {n : Nat} {z : Nat → Int} : siB n z = true ↔ SiP n z := by simp [siB]
theorem siB_not {n : Nat} {z : Nat → Int} : siB n z = false ↔ ¬ SiP n z := by simp [siB]
theorem prT_lo {s : Nat → Int} : ∀ k, (∀ i, i < k → okS s i) → 0 ≤ prT s k
  | 0, _ => Int.le_refl _
  | k + 1, h => by
    have h1 := prT_lo k (fun i hi => h i (by omega))
    have h2 := (h k (by omega)).1
    show 0 ≤ s (k * 2)
    omega

end Go.Proofs.Ytlklggkkkbamhaa
