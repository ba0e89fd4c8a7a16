/- What the program's LeastStaff returns. -/
import Derived.Test.YtkdlhapbbnggoaaDroppedI
namespace Go.Proofs.Ytkdlhapbbnggoaa
open Go.RowKit
set_option linter.unusedVariables false

set_option maxRecDepth 100000 in
set_option maxHeartbeats 4000000 in
theorem iLeastStaff_v (n : Nat) (hn : n ≤ maxLen) (z : Nat → Int) (v : Value) (t : Int) (w : World) (h : Rd w v n (n * 2) z) :
    Calls Try.prog 44 #[v, .int .i64 t] w fun e w' => e = .returned (.int .i64 (lsI n z t)) ∧ Below w.heap.size w w' := by
  have hcon := Lib.hid (fun W (hW : Below w.heap.size w W) => iServeOk_v n hn z v t 16 W (h.later hW))
  by_cases hv : SvP n z t 16
  rotate_left
  · have HN := Lib.hid (lsI_no hv)
    rw [svOk_no hv] at hcon
    go_enter Try.func44, Try.ntmps44
    go_wp2_with fail
    refine (hcon.out _ (Below.refl _ _)).mono ?_
    rintro e w1 ⟨rfl, hb⟩
    go_wp2_with fail
    go_ret
    exact ⟨by rw [HN.out]; rfl, hb⟩
  · have hdr := Lib.hid (fun (s : Int) W (hW : Below w.heap.size w W) => iDropped_v n hn z v t s W (h.later hW))
    rw [svOk_yes hv] at hcon
    have HV := Lib.hid hv
    obtain ⟨r, hr⟩ : ∃ r, r = lsI n z t := ⟨_, rfl⟩
    rw [← hr]
    have HR := Lib.hid hr
    clear hr hv h
    go_enter Try.func44, Try.ntmps44
    go_wp2_with fail
    refine (hcon.out _ (Below.refl _ _)).mono ?_
    rintro e w1 ⟨rfl, hb1⟩
    have HB1 := Lib.hid hb1
    clear hb1
    go_wp2_with fail
    go_loopw [5] (fun sv wr => ∃ k : Nat, 1 ≤ k ∧ k ≤ 16 ∧ sv = .int .i64 (k : Int) ∧ Below w.heap.size w wr ∧ Hid (∀ x : Int, 1 ≤ x → x < (k : Int) → drI n z t x ≠ 0)) (fun sv _ => 17 - (intOf sv).toNat)
    case atStart => exact ⟨1, by omega, by omega, rfl, HB1.out, fun x h1 h2 => by omega⟩
    case round =>
      obtain ⟨k, hk1, hk2, rfl, hbw, HK⟩ := hrel
      obtain ⟨y, hy⟩ : ∃ y, y = drI n z t (k : Int) := ⟨_, rfl⟩
      have hge : 0 ≤ y := by rw [hy]; exact drI_ge (HV.out.staff (by omega) (by omega))
      have hcall := hdr.out (k : Int)
      rw [← hy] at hcall
      have HC := Lib.hid hcall
      clear hcall
      by_cases hc : y = 0
      · have HE : Hid (r = (k : Int)) := HR.out.trans (lsI_at HV.out (by omega) (by omega) (by rw [← hy]; exact hc) HK.out)
        subst hc
        clear hy
        go_wp2_with fail
        refine (HC.out _ hbw).mono ?_
        rintro e w2 ⟨rfl, hb⟩
        go_wp2_with fail
        go_ret
        exact ⟨by rw [HE.out]; rfl, hbw.trans (hb.mono hbw.size)⟩
      · have hk16 : k < 16 := by
          rcases Nat.lt_or_ge k 16 with h | h
          · exact h
          · have := drI_16 HV.out
            obtain rfl : k = 16 := by omega
            exact absurd (hy.trans this) hc
        have HKN : Hid (∀ x : Int, 1 ≤ x → x < ((k + 1 : Nat) : Int) → drI n z t x ≠ 0) := fun x h1 h2 => by
          by_cases e : x = (k : Int)
          · rw [e, ← hy]; exact hc
          · exact HK.out x h1 (by omega)
        have hcd : decide (0 < y) = true := decide_eq_true (by omega)
        clear hy hc
        go_wp2_with fail
        refine (HC.out _ hbw).mono ?_
        rintro e w2 ⟨rfl, hb⟩
        go_wp2_with fail
        go_roundw
        case rel => exact ⟨k + 1, by omega, by omega, by congr 1, hbw.trans (hb.mono hbw.size), HKN.out⟩
        case measure => simp only [intOf]; omega

end Go.Proofs.Ytkdlhapbbnggoaa
