/- The least of a row of numbers, and the first place of a number: slices.Min and slices.Index. -/
import Derived.Test.YtkdlhapbbnggoaaSrvPlain
import Derived.Test.YtkdlhapbbnggoaaOwnV
import Derived.Test.YtkdlhapbbnggoaaChecked
import Derived.Deep.LoopGhost
namespace Go.Proofs.Ytkdlhapbbnggoaa
open Go.RowKit
set_option linter.unusedVariables false

set_option maxRecDepth 100000 in
set_option maxHeartbeats 1000000 in
theorem min_any (m : Nat) (hm : 0 < m) (hm9 : m ≤ 1000000) (f : Nat → Int) (g c : Nat) (w : World) (h : ∀ j, j < m → w.cell? ⟨g, j, none⟩ = some (.int .i64 (f j))) :
    Calls Try.prog 61 #[.slice (some ⟨g, 0, none⟩) m c] w fun e w' => e = .returned (.int .i64 (f (whoK f m))) ∧ w = w' := by
  have H := Lib.hid h
  have a0 := h 0 hm
  have hm1 : ¬ ((m : Int) < 1) := by omega
  have hm2 : (0 : Int) < (m : Int) := by omega
  clear h
  go_enter Try.func61, Try.ntmps61
  go_wp2_with fail
  clear a0
  go_loop [3, 4] (fun x v => ∃ k : Nat, 1 ≤ k ∧ k ≤ m ∧ v = .int .i64 (k : Int) ∧ x = .int .i64 (f (whoK f k))) (fun _ v => m - (intOf v).toNat)
  case atStart => exact ⟨1, by omega, by omega, rfl, by simp [whoK]⟩
  case round =>
    obtain ⟨k, hk1, hk, rfl, rfl⟩ := hrel
    by_cases hkm : k < m
    · have ak := H.out k hkm
      have hk0 : (0 : Int) ≤ (k : Int) := by omega
      have hkl : (k : Int) < (m : Int) := by omega
      obtain ⟨x, hx⟩ : ∃ x, x = f (whoK f k) := ⟨_, rfl⟩
      obtain ⟨y, hy⟩ : ∃ y, y = f k := ⟨_, rfl⟩
      have hn : f (whoK f (k + 1)) = if y < x then y else x := by
        rw [hx, hy]
        show f (if f k < f (whoK f k) then k else whoK f k) = _
        split <;> rfl
      rw [← hx]
      rw [← hy] at ak
      have HN := Lib.hid hn
      clear hx hy hn
      by_cases hc : y < x
      · go_wp2_with fail
        all_goals
          go_round
          case rel => exact ⟨k + 1, by omega, by omega, by congr 1, by rw [HN.out, if_pos hc]⟩
          case measure => simp only [intOf]; omega
      · go_wp2_with fail
        all_goals
          go_round
          case rel => exact ⟨k + 1, by omega, by omega, by congr 1, by rw [HN.out, if_neg hc]⟩
          case measure => simp only [intOf]; omega
    · obtain rfl : k = m := by omega
      go_wp2_with fail
      go_ret
      exact ⟨rfl, rfl⟩

set_option maxRecDepth 100000 in
set_option maxHeartbeats 1000000 in
theorem idx_any (m : Nat) (hm : 0 < m) (hm9 : m ≤ 1000000) (f : Nat → Int) (g c : Nat) (x : Int) (hx : x = f (whoK f m)) (w : World) (h : ∀ j, j < m → w.cell? ⟨g, j, none⟩ = some (.int .i64 (f j))) :
    Calls Try.prog 62 #[.slice (some ⟨g, 0, none⟩) m c, .int .i64 x] w fun e w' => e = .returned (.int .i64 ((whoK f m : Nat) : Int)) ∧ w = w' := by
  have H := Lib.hid h
  have HX := Lib.hid hx
  clear h hx
  obtain ⟨r, hr⟩ : ∃ r : Nat, r = whoK f m := ⟨_, rfl⟩
  rw [← hr]
  have HR := Lib.hid hr
  clear hr
  go_enter Try.func62, Try.ntmps62
  go_wp2_with fail
  go_loop [8] (fun v => ∃ k : Nat, k ≤ m ∧ v = .int .i64 (k : Int) ∧ Hid (∀ j, j < k → f j ≠ x)) (fun v => m - (intOf v).toNat)
  case atStart => exact ⟨0, by omega, rfl, fun j hj => absurd hj (by omega)⟩
  case round =>
    obtain ⟨k, hk, rfl, HK⟩ := hrel
    by_cases hkm : k < m
    · have ak := H.out k hkm
      have hk0 : (0 : Int) ≤ (k : Int) := by omega
      have hkl : (k : Int) < (m : Int) := by omega
      obtain ⟨y, hy⟩ : ∃ y, y = f k := ⟨_, rfl⟩
      rw [← hy] at ak
      by_cases hc : x = y
      · have HE : Hid (k = r) := by rw [HR.out]; exact whoK_only (by rw [← hy, ← hc, HX.out]) (fun j hj => by rw [← HX.out]; exact HK.out j hj)
        subst hc
        clear hy
        go_wp2_with fail
        go_ret
        exact ⟨by rw [← HE.out]; rfl, rfl⟩
      · have HY : Hid (f k ≠ x) := by rw [← hy]; exact fun h => hc h.symm
        have hcd : (x == y) = false := by simpa using hc
        clear hy hc
        go_wp2_with fail
        go_round
        case rel => exact ⟨k + 1, by omega, by congr 1, fun j hj => by
          by_cases e : j = k
          · subst e; exact HY.out
          · exact HK.out j (by omega)⟩
        case measure => simp only [intOf]; omega
    · exact absurd HX.out.symm (HK.out _ (by have := whoK_lt' (f := f) hm; omega))

end Go.Proofs.Ytkdlhapbbnggoaa
