/- First fit, in plain words. -/
import Derived.Test.YtnkhjlpeeljelaaRoom2
import Derived.Test.YtnkhjlpeeljelaaLoadPlain
namespace Go.Proofs.Ytnkhjlpeeljelaa

def tkX (W C : Int) (x : Bx) (pw pc : Int) : Bool := tkB W C x.1 x.2.1 x.2.2.length pw pc
/-- The place of the first box that takes the piece; behind all of them if there is none. -/
def ffAt (W C : Int) (L : List Bx) (pw pc : Int) : Nat := L.findIdx (fun x => tkX W C x pw pc)
def ffStep (W C : Int) (L : List Bx) (b pw pc : Int) : List Bx :=
  if ffAt W C L pw pc < L.length then L.set (ffAt W C L pw pc) ((L.getD (ffAt W C L pw pc) bxD).1, (L.getD (ffAt W C L pw pc) bxD).2.1 + pw, (L.getD (ffAt W C L pw pc) bxD).2.2 ++ [b]) else L ++ [(pc, pw, [b])]
def ffL (W C : Int) (z : Nat → Int) : Nat → List Bx
  | 0 => []
  | k + 1 => ffStep W C (ffL W C z k) (z (k * 3)) (z (k * 3 + 1)) (z (k * 3 + 2))
/-- A search's answer: the place of the first one of n that t takes, or -1. -/
def IxR (n : Nat) (t : Nat → Bool) (r : Int) : Prop := (∃ k, k < n ∧ r = (k : Int) ∧ t k = true ∧ ∀ j, j < k → t j = false) ∨ (r = -1 ∧ ∀ j, j < n → t j = false)
theorem ffAt_ix (W C : Int) (L : List Bx) (pw pc : Int) : IxR L.length (fun i => tkX W C (L.getD i bxD) pw pc) (if ffAt W C L pw pc < L.length then (ffAt W C L pw pc : Int) else -1) := by
  have hget : ∀ j (h : j < L.length), L.getD j bxD = L[j] := fun j h => by rw [List.getD_eq_getElem?_getD, List.getElem?_eq_getElem h]; rfl
  by_cases h : ffAt W C L pw pc < L.length
  · rw [if_pos h]
    refine .inl ⟨_, h, rfl, ?_, fun j hj => ?_⟩
    · show tkX W C (L.getD _ bxD) pw pc = true
      rw [hget _ h]
      exact List.findIdx_getElem (w := h)
    · show tkX W C (L.getD j bxD) pw pc = false
      rw [hget _ (by omega)]
      exact List.not_of_lt_findIdx hj
  · rw [if_neg h]
    refine .inr ⟨rfl, fun j hj => ?_⟩
    show tkX W C (L.getD j bxD) pw pc = false
    rw [hget _ hj]
    exact List.not_of_lt_findIdx (Nat.lt_of_lt_of_le hj (Nat.le_of_not_lt h))
theorem getD_mem {L : List Bx} {i : Nat} (h : i < L.length) : L.getD i bxD ∈ L := by
  rw [List.getD_eq_getElem?_getD, List.getElem?_eq_getElem h]
  exact List.getElem_mem h
theorem ffL_in {W C : Int} {n : Nat} {z : Nat → Int} (hz : ∀ k, k < n → wcOk z k) (k : Nat) (hk : k ≤ n) :
    (ffL W C z k).length ≤ k ∧ ∀ x ∈ ffL W C z k, (0 ≤ x.2.1 ∧ x.2.1 ≤ k * 60) ∧ 1 ≤ x.2.2.length ∧ x.2.2.length ≤ k := by
  induction k with
  | zero => exact ⟨Nat.le_refl _, fun x hx => by cases hx⟩
  | succ k ih =>
    obtain ⟨h1, h2⟩ := ih (by omega)
    have hw := (hz k (by omega)).1
    show (ffStep W C (ffL W C z k) _ _ _).length ≤ _ ∧ ∀ x ∈ ffStep W C (ffL W C z k) _ _ _, _
    unfold ffStep
    split
    · rename_i hlt
      refine ⟨by rw [List.length_set]; omega, fun x hx => ?_⟩
      rcases List.mem_or_eq_of_mem_set hx with hx | rfl
      · have := h2 x hx; omega
      · obtain ⟨⟨a1, a2⟩, a3, a4⟩ := h2 _ (getD_mem hlt)
        obtain ⟨y, hy⟩ : ∃ y, y = (ffL W C z k).getD (ffAt W C (ffL W C z k) (z (k * 3 + 1)) (z (k * 3 + 2))) bxD := ⟨_, rfl⟩
        rw [← hy] at a1 a2 a3 a4 ⊢
        show (0 ≤ y.2.1 + z (k * 3 + 1) ∧ y.2.1 + z (k * 3 + 1) ≤ ((k + 1 : Nat) : Int) * 60) ∧ 1 ≤ (y.2.2 ++ [z (k * 3)]).length ∧ (y.2.2 ++ [z (k * 3)]).length ≤ k + 1
        rw [List.length_append, List.length_singleton]
        omega
    · refine ⟨by rw [List.length_append]; simp; omega, fun x hx => ?_⟩
      rcases List.mem_append.1 hx with hx | hx
      · have := h2 x hx; omega
      · obtain rfl : x = (z (k * 3 + 2), z (k * 3 + 1), [z (k * 3)]) := by simpa using hx
        show (0 ≤ z (k * 3 + 1) ∧ z (k * 3 + 1) ≤ ((k + 1 : Nat) : Int) * 60) ∧ 1 ≤ [z (k * 3)].length ∧ [z (k * 3)].length ≤ k + 1
        rw [List.length_singleton]
        omega

end Go.Proofs.Ytnkhjlpeeljelaa
