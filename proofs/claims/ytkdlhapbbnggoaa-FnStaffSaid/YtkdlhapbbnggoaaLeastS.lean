/- What the model's LeastStaff returns. -/
import Derived.Test.YtkdlhapbbnggoaaDroppedS
namespace Go.Proofs.Ytkdlhapbbnggoaa
open Go.RowKit
set_option linter.unusedVariables false

set_option maxRecDepth 100000 in
set_option maxHeartbeats 4000000 in
theorem sLeastStaff_v (n : Nat) (hn : n ≤ maxLen) (z : Nat → Int) (v : Value) (t : Int) (w : World) (h : Rd w v n (n * 2) z) :
    Calls Try.prog 43 #[v, .int .i64 t] w fun e w' => e = .returned (.int .i64 (lsI n z t)) ∧ Below w.heap.size w w' := by
  have hdr := Lib.hid (fun (s : Int) W (hW : Below w.heap.size w W) => sDropped_v n hn z v t s W (h.later hW))
  obtain ⟨r, hr⟩ : ∃ r, r = lsI n z t := ⟨_, rfl⟩
  rw [← hr]
  have HR := Lib.hid hr
  have HEND : Hid ((∀ x : Int, 1 ≤ x → x < 17 → drI n z t x ≠ 0) → r = -1) := fun h => by
    by_cases hv : SvP n z t 16
    · exact absurd (drI_16 hv) (h 16 (by omega) (by omega))
    · exact HR.out.trans (lsI_no hv)
  have HAT : Hid (∀ k : Int, 1 ≤ k → k ≤ 16 → drI n z t k = 0 → (∀ x : Int, 1 ≤ x → x < k → drI n z t x ≠ 0) → r = k) := fun k h1 h2 h3 h4 => by
    by_cases hv : SvP n z t 16
    · exact HR.out.trans (lsI_at hv h1 h2 h3 h4)
    · rw [drI_no (fun h => hv (h.staff (by omega) (by omega)))] at h3
      omega
  clear hr h
  go_enter Try.func43, Try.ntmps43
  go_wp2_with fail
  go_loopw [5] (fun sv wr => ∃ k : Nat, 1 ≤ k ∧ k ≤ 17 ∧ sv = .int .i64 (k : Int) ∧ Below w.heap.size w wr ∧ Hid (∀ x : Int, 1 ≤ x → x < (k : Int) → drI n z t x ≠ 0)) (fun sv _ => 17 - (intOf sv).toNat)
  case atStart => exact ⟨1, by omega, by omega, rfl, Below.refl _ _, fun x h1 h2 => by omega⟩
  case round =>
    obtain ⟨k, hk1, hk2, rfl, hbw, HK⟩ := hrel
    by_cases hk : k ≤ 16
    · obtain ⟨y, hy⟩ : ∃ y, y = drI n z t (k : Int) := ⟨_, rfl⟩
      have hcall := hdr.out (k : Int)
      rw [← hy] at hcall
      have HC := Lib.hid hcall
      clear hcall
      by_cases hc : y = 0
      · have HE : Hid (r = (k : Int)) := HAT.out (k : Int) (by omega) (by omega) (by rw [← hy]; exact hc) HK.out
        subst hc
        clear hy
        go_wp2_with fail
        refine (HC.out _ hbw).mono ?_
        rintro e w2 ⟨rfl, hb⟩
        go_wp2_with fail
        go_ret
        exact ⟨by rw [HE.out]; rfl, hbw.trans (hb.mono hbw.size)⟩
      · have HKN : Hid (∀ x : Int, 1 ≤ x → x < ((k + 1 : Nat) : Int) → drI n z t x ≠ 0) := fun x h1 h2 => by
          by_cases e : x = (k : Int)
          · rw [e, ← hy]; exact hc
          · exact HK.out x h1 (by omega)
        have hcd : (y == 0) = false := by simpa using hc
        clear hy hc
        go_wp2_with fail
        refine (HC.out _ hbw).mono ?_
        rintro e w2 ⟨rfl, hb⟩
        go_wp2_with fail
        go_roundw
        case rel => exact ⟨k + 1, by omega, by omega, by congr 1, hbw.trans (hb.mono hbw.size), HKN.out⟩
        case measure => simp only [intOf]; omega
    · have HE : Hid (r = -1) := HEND.out (fun x h1 h2 => HK.out x h1 (by omega))
      have hkd : decide ((k : Int) ≤ 16) = false := decide_eq_false (by omega)
      go_wp2_with fail
      go_ret
      exact ⟨by rw [HE.out]; rfl, hbw⟩

end Go.Proofs.Ytkdlhapbbnggoaa
