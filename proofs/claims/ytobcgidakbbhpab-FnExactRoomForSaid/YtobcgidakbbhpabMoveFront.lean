/- How far an item comes: as far as the steps and the item ahead of it let it. -/
import Derived.Test.YtobcgidakbbhpabBeltPlain
namespace Go.Proofs.Ytobcgidakbbhpab

theorem mvZ_bag {L G : Int} {z : Nat → Int} (s k : Nat) : mvZ L G s z (k * 3) = z (k * 3) := by
  induction s with
  | zero => rfl
  | succ s ih => show stZ L G (mvZ L G s z) (k * 3) = _; rw [stZ_bag, ih]
theorem mvZ_len {L G : Int} {z : Nat → Int} (s k : Nat) : mvZ L G s z (k * 3 + 2) = z (k * 3 + 2) := by
  induction s with
  | zero => rfl
  | succ s ih => show stZ L G (mvZ L G s z) (k * 3 + 2) = _; rw [stZ_len, ih]
theorem adv_le1 (f m : Int) : adv f m ≤ f + 1 := by unfold adv; split <;> omega
theorem stF_le1 {L G : Int} {z : Nat → Int} (k : Nat) : stF L G z k ≤ z (k * 3 + 1) + 1 := by rw [stF_eq]; exact adv_le1 _ _
theorem lim_step1 {L G : Int} {z : Nat → Int} (k : Nat) : lim L G (stZ L G z) k ≤ lim L G z k + 1 := by
  cases k with
  | zero => show L ≤ L + 1; omega
  | succ k =>
    show stZ L G z (k * 3 + 1) - stZ L G z (k * 3 + 2) - G ≤ z (k * 3 + 1) - z (k * 3 + 2) - G + 1
    rw [stZ_front, stZ_len]
    have := stF_le1 (L := L) (G := G) (z := z) k
    omega
theorem mvZ_front {L G : Int} {n : Nat} {z : Nat → Int} (h : OkP L G n z) {k : Nat} (hk : k < n) : ∀ s : Nat, mvZ L G s z (k * 3 + 1) = min (z (k * 3 + 1) + s) (lim L G (mvZ L G s z) k)
  | 0 => by
    have := (h.2.2.2 k hk).2.2.2.2.2
    show z (k * 3 + 1) = min (z (k * 3 + 1) + ((0 : Nat) : Int)) (lim L G z k)
    omega
  | s + 1 => by
    have ih := mvZ_front h hk s
    have h1 := lim_mono (L := L) (G := G) (z := mvZ L G s z) k
    have h2 := lim_step1 (L := L) (G := G) (z := mvZ L G s z) k
    show stZ L G (mvZ L G s z) (k * 3 + 1) = min (z (k * 3 + 1) + ((s + 1 : Nat) : Int)) (lim L G (stZ L G (mvZ L G s z)) k)
    rw [stZ_front, stF_eq]
    unfold adv
    split <;> omega

end Go.Proofs.Ytobcgidakbbhpab
