/- Whether all numbers of a row differ: by a set that the call makes. -/
import Derived.Test.YtnkhjlpeeljelaaSetIs
import Derived.Test.YtnkhjlpeeljelaaFlat
import Derived.IntWalk
import Derived.Carry
import Derived.Deep.LoopGhost
import Derived.Deep.Light
namespace Go.Proofs.Ytnkhjlpeeljelaa
open Go.RowKit Go.Maps
set_option linter.unusedVariables false

/-- The first n numbers differ. -/
def dif (z : Nat → Int) (n : Nat) : Prop := ∀ i j, i < j → j < n → z i ≠ z j
instance (z : Nat → Int) (n : Nat) : Decidable (dif z n) := decidable_of_iff (∀ j, j < n → ∀ i, i < j → z i ≠ z j) ⟨fun h i j a b => h j b i a, fun h j b i a => h i j a b⟩
/-- Those ahead of the k-th. -/
def seen (z : Nat → Int) (k : Nat) (x : Int) : Bool := decide (∃ j, j < k ∧ z j = x)
theorem dif_succ {z : Nat → Int} {k : Nat} (h : dif z k) (hs : seen z k (z k) = false) : dif z (k + 1) := by
  intro i j hij hj e
  by_cases hk : j = k
  · subst hk
    exact absurd ⟨i, hij, e⟩ (of_decide_eq_false hs)
  · exact h i j hij (by omega) e
theorem dif_not {z : Nat → Int} {k n : Nat} (hk : k < n) (hs : seen z k (z k) = true) : ¬ dif z n := by
  intro h
  obtain ⟨j, hj, e⟩ := of_decide_eq_true hs
  exact h j k hj hk e
theorem seen_succ {z : Nat → Int} {k : Nat} (x : Int) : (if x = z k then true else seen z k x) = seen z (k + 1) x := by
  unfold seen
  by_cases e : x = z k
  · rw [if_pos e]
    exact (decide_eq_true ⟨k, by omega, e.symm⟩).symm
  · rw [if_neg e]
    by_cases h : ∃ j, j < k ∧ z j = x
    · obtain ⟨j, h1, h2⟩ := h
      rw [decide_eq_true ⟨j, h1, h2⟩, decide_eq_true ⟨j, by omega, h2⟩]
    · rw [decide_eq_false h, decide_eq_false]
      rintro ⟨j, h1, h2⟩
      by_cases hj : j = k
      · subst hj; exact e h2.symm
      · exact h ⟨j, by omega, h2⟩

set_option maxRecDepth 100000 in
set_option maxHeartbeats 4000000 in
theorem iDiffer_any (n : Nat) (hn : n ≤ 1099511627776) (z : Nat → Int) (p : Option Addr) (c g o : Nat) (w : World) (h : FlatAt w 0 w.heap.size p g o n (fun j => .int .i64 (z j))) (hwf : ∀ j, j < n → (Lit.int .i64 (z j)).wf = true) :
    Calls Try.prog 69 #[.slice p n c] w fun e w' => e = .returned (.bool (decide (dif z n))) ∧ Below w.heap.size w w' := by
  have H := Lib.hid h
  have HW := Lib.hid hwf
  have hmm := @run_makeMap Try.prog
  clear h hwf
  go_enter Try.func69, Try.ntmps69
  go_wp2_with fail
  go_loopw [9] (fun v wr => ∃ k : Nat, k ≤ n ∧ v = .int .i64 (k : Int) ∧ Hid (SetIs wr w.heap.size k (seen z k)) ∧ Hid (dif z k) ∧ Below w.heap.size w wr) (fun v _ => n - (intOf v).toNat)
  case atStart => exact ⟨0, by omega, rfl, (SetIs.made w).congr (fun x => (decide_eq_false (fun ⟨j, hj, _⟩ => absurd hj (by omega))).symm), fun i j _ hj => absurd hj (by omega), (Below.refl _ _).alloc (Nat.le_refl _) _⟩
  case round =>
    obtain ⟨k, hk, rfl, HS, HD, hb⟩ := hrel
    by_cases hkn : k < n
    · obtain ⟨rfl, -, hg⟩ := H.out.1 (by omega)
      have a0 := (hb.cell (p := ⟨g, o + k, none⟩) hg).trans (H.out.int k hkn)
      have hk0 : (0 : Int) ≤ (k : Int) := by omega
      have hkl : (k : Int) < (n : Int) := by omega
      have hwk : IntKind.i64.wrap ((k : Int) + 1) = (k : Int) + 1 := IntWalk.i64_in _ (by omega)
      have hwz := HW.out k hkn
      have hrun := HS.out.look hwz
      obtain ⟨x, hx⟩ : ∃ x, x = z k := ⟨_, rfl⟩
      rw [← hx] at a0 hrun hwz
      have HX := Lib.hid hx
      cases hs : seen z k x with
      | true =>
        rw [hs] at hrun
        have HN := Lib.hid (decide_eq_false (dif_not (z := z) hkn (by rw [← hx]; exact hs)))
        have HB := Lib.hid hb
        clear hs hx hb hwz
        go_wp2_with fail
        go_ret
        exact ⟨by rw [HN.out]; first | done | rfl, HB.out⟩
      | false =>
        rw [hs] at hrun
        have HN := Lib.hid (dif_succ HD.out (by rw [← hx]; exact hs))
        have hky := keyB hwz
        obtain ⟨D, hown, hD2⟩ := HS.out
        have HI := Lib.hid hown.isMap
        have HD2 := Lib.hid hD2
        have HB := Lib.hid hb
        clear hs hx hb hwz hD2
        go_wp2_with (at_mapUpdate; refine wpList_mapUpdate_own _ rfl _ _ _ 91 rfl 3 4 lawIntB Try.underlying91 _ w.heap.size k D rfl hown (by unfold maxLen; omega) _ _ (kB x) rfl rfl hky (.lit (.bool true)) [] (plainElem_bool Try.underlying4 true) ?_; intro w1 hown1 hgrow1)
        go_roundw
        case rel =>
          refine ⟨k + 1, by omega, by congr 1, ?_, HN.out, HB.out.grown hgrow1 (by have := HB.out.size; omega) (by intro j hj; injection hj with hj; omega)⟩
          have := SetIs.of_put HI.out HD2.out x hown1
          exact this.congr (fun y => by rw [HX.out]; exact seen_succ y)
        case measure => simp only [intOf]; omega
    · obtain rfl : k = n := by omega
      have HY := Lib.hid (decide_eq_true HD.out)
      have HB := Lib.hid hb
      clear HS HD hb
      go_wp2_with fail
      go_ret
      exact ⟨by rw [HY.out]; first | done | rfl, HB.out⟩

end Go.Proofs.Ytnkhjlpeeljelaa
