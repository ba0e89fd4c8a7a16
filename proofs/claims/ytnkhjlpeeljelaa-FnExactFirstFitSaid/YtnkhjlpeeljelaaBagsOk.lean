/- What the program's bagsOk returns. -/
import Derived.Test.YtnkhjlpeeljelaaDiffer
namespace Go.Proofs.Ytnkhjlpeeljelaa
open Go.RowKit Go.Maps
set_option linter.unusedVariables false

/-- The first n bags are at least 1 and differ. -/
def bgOk (z : Nat → Int) (n : Nat) : Prop := (∀ j, j < n → 1 ≤ z j) ∧ dif z n
instance (z : Nat → Int) (n : Nat) : Decidable (bgOk z n) := inferInstanceAs (Decidable ((∀ j, j < n → 1 ≤ z j) ∧ dif z n))

set_option maxRecDepth 100000 in
set_option maxHeartbeats 4000000 in
theorem iBags_any (n : Nat) (hn : n ≤ 1099511627776) (z : Nat → Int) (p : Option Addr) (c g o : Nat) (w : World) (h : FlatAt w 0 w.heap.size p g o n (fun j => .int .i64 (z j))) (hwf : ∀ j, j < n → (Lit.int .i64 (z j)).wf = true) :
    Calls Try.prog 55 #[.slice p n c] w fun e w' => e = .returned (.bool (decide (bgOk z n))) ∧ Below w.heap.size w w' := by
  have hd := Lib.hid (iDiffer_any n hn z p c g o w h hwf)
  have H := Lib.hid h
  clear h hwf
  go_enter Try.func55, Try.ntmps55
  go_wp2_with fail
  go_loopw [7] (fun v wr => ∃ k : Nat, k ≤ n ∧ v = .int .i64 (k : Int) ∧ Hid (∀ j, j < k → 1 ≤ z j) ∧ w = wr) (fun v _ => n - (intOf v).toNat)
  case atStart => exact ⟨0, by omega, rfl, fun j hj => absurd hj (by omega), rfl⟩
  case round =>
    obtain ⟨k, hk, rfl, HP, rfl⟩ := hrel
    by_cases hkn : k < n
    · obtain ⟨rfl, -, hg⟩ := H.out.1 (by omega)
      have a0 := H.out.int k hkn
      have hk0 : (0 : Int) ≤ (k : Int) := by omega
      have hkl : (k : Int) < (n : Int) := by omega
      have hwk : IntKind.i64.wrap ((k : Int) + 1) = (k : Int) + 1 := IntWalk.i64_in _ (by omega)
      obtain ⟨x, hx⟩ : ∃ x, x = z k := ⟨_, rfl⟩
      rw [← hx] at a0
      have HX := Lib.hid hx
      clear hx
      by_cases hs : x < 1
      · have hd1 : decide (x < 1) = true := decide_eq_true hs
        have HN := Lib.hid (decide_eq_false (p := bgOk z n) (fun h => by have := h.1 k hkn; rw [← HX.out] at this; omega))
        go_wp2_with fail
        go_ret
        exact ⟨by rw [HN.out]; first | done | rfl, Below.refl _ _⟩
      · have hd1 : decide (x < 1) = false := decide_eq_false hs
        go_wp2_with fail
        go_roundw
        case rel => exact ⟨k + 1, by omega, by congr 1, fun j hj => by
          by_cases e : j = k
          · subst e; rw [← HX.out]; omega
          · exact HP.out j (by omega), by first | rfl | trivial⟩
        case measure => simp only [intOf]; omega
    · obtain rfl : k = n := by omega
      have HE := Lib.hid (show decide (dif z k) = decide (bgOk z k) from by
        by_cases hdd : dif z k
        · rw [decide_eq_true hdd, decide_eq_true (show bgOk z k from ⟨HP.out, hdd⟩)]
        · rw [decide_eq_false hdd, decide_eq_false (fun h : bgOk z k => hdd h.2)])
      go_wp2_with (go_at_call 69; refine hd.out.mono ?_; rintro e w2 ⟨rfl, hb⟩)
      go_ret
      exact ⟨by rw [HE.out]; first | done | rfl, hb⟩

end Go.Proofs.Ytnkhjlpeeljelaa
