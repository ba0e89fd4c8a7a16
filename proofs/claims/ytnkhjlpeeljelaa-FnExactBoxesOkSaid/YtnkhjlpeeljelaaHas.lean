/- Whether a row of numbers has a number: the model's l03Has. -/
import Derived.Test.YtnkhjlpeeljelaaFlat
import Derived.Test.YtnkhjlpeeljelaaSmall
import Derived.Test.YtnkhjlpeeljelaaChecked
import Derived.Deep.LoopGhost
import Derived.IntWalk
namespace Go.Proofs.Ytnkhjlpeeljelaa
open Go.RowKit
set_option linter.unusedVariables false

/-- One of the first n numbers is x. -/
def hasI (z : Nat → Int) (n : Nat) (x : Int) : Prop := ∃ j, j < n ∧ z j = x
instance (z : Nat → Int) (n : Nat) (x : Int) : Decidable (hasI z n x) := by unfold hasI; exact inferInstance
theorem hasI_list (l : List Int) (x : Int) : hasI (fun j => l.getD j 0) l.length x ↔ x ∈ l := by
  constructor
  · rintro ⟨j, hj, e⟩
    rw [← e]
    show l.getD j 0 ∈ l
    rw [List.getD_eq_getElem?_getD, List.getElem?_eq_getElem hj]
    exact List.getElem_mem hj
  · intro h
    obtain ⟨j, hj, e⟩ := List.getElem_of_mem h
    refine ⟨j, hj, ?_⟩
    show l.getD j 0 = x
    rw [List.getD_eq_getElem?_getD, List.getElem?_eq_getElem hj]
    exact e
/-- A row that an append left, as a list. -/
theorem flat_of_list {w : World} {B : Nat} {t : TypeId} {p : Option Addr} {c : Nat} {l : List Int} (h : w.ownsRow B t 1 (.slice p l.length c) l.length (l.map (.int .i64))) :
    ∃ g, FlatAt w B w.heap.size p g 0 l.length (fun j => .int .i64 (l.getD j 0)) := by
  obtain ⟨g, h1, -⟩ := FlatAt.of_own (f := fun j => .int .i64 (l.getD j 0)) h (fun j hj => by
    rw [List.getElem?_map, List.getElem?_eq_getElem (show j < l.length by omega), List.getD_eq_getElem?_getD, List.getElem?_eq_getElem (show j < l.length by omega)]; rfl)
  rw [Nat.mul_one] at h1
  exact ⟨g, h1⟩

set_option maxRecDepth 100000 in
set_option maxHeartbeats 1000000 in
theorem sHas_any (n : Nat) (hn : n ≤ maxLen) (z : Nat → Int) (p : Option Addr) (c g o : Nat) (x : Int) (w : World) (h : FlatAt w 0 w.heap.size p g o n (fun j => .int .i64 (z j))) :
    Calls Try.prog 66 #[.slice p n c, .int .i64 x] w fun e w' => e = .returned (.bool (decide (hasI z n x))) ∧ w = w' := by
  unfold maxLen at hn
  have H := Lib.hid h
  clear h
  go_enter Try.func66, Try.ntmps66
  go_wp2_with fail
  go_loopw [5] (fun v wr => ∃ k : Nat, k ≤ n ∧ v = .int .i64 (k : Int) ∧ Hid (∀ j, j < k → z j ≠ x) ∧ w = wr) (fun v _ => n - (intOf v).toNat)
  case atStart => exact ⟨0, by omega, rfl, fun j hj => absurd hj (by omega), rfl⟩
  case round =>
    obtain ⟨k, hk, rfl, HN, rfl⟩ := hrel
    by_cases hkn : k < n
    · obtain ⟨rfl, -, hg⟩ := H.out.1 (by omega)
      have a0 := H.out.int k hkn
      have hk0 : (0 : Int) ≤ (k : Int) := by omega
      have hkl : (k : Int) < (n : Int) := by omega
      have hwk : IntKind.i64.wrap ((k : Int) + 1) = (k : Int) + 1 := IntWalk.i64_in _ (by omega)
      by_cases e : z k = x
      · have HE := Lib.hid (decide_eq_true (p := hasI z n x) ⟨k, hkn, e⟩)
        rw [e] at a0
        have hxx : (x == x) = true := by simp
        clear e
        go_wp2_with fail
        go_ret
        exact ⟨by rw [HE.out]; first | done | rfl, rfl⟩
      · have he : (z k == x) = false := by simpa using e
        have HE := Lib.hid e
        clear e
        obtain ⟨y, hy⟩ : ∃ y, y = z k := ⟨_, rfl⟩
        rw [← hy] at a0 he
        have HY := Lib.hid hy
        clear hy
        go_wp2_with fail
        go_roundw
        case rel => exact ⟨k + 1, by omega, by congr 1, fun j hj => by
          by_cases e : j = k
          · subst e; exact HE.out
          · exact HN.out j (by omega), by first | rfl | trivial⟩
        case measure => simp only [intOf]; omega
    · obtain rfl : k = n := by omega
      have HE := Lib.hid (decide_eq_false (p := hasI z k x) (by rintro ⟨j, hj, e⟩; exact HN.out j hj e))
      go_wp2_with fail
      go_ret
      exact ⟨by rw [HE.out]; first | done | rfl, rfl⟩

end Go.Proofs.Ytnkhjlpeeljelaa
