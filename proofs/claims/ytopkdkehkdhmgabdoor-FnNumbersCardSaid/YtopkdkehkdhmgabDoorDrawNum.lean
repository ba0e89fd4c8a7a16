/- A number that is drawn fits its kind. -/
import Derived.Test.YtopkdkehkdhmgabDoorDraw
namespace Go.Proofs.YtopkdkehkdhmgabDoor
open Go.RowKit
set_option linter.unusedVariables false

set_option maxRecDepth 100000 in
set_option maxHeartbeats 2000000 in
theorem number_any {B n : Nat} {p : Option Addr} {cap gc oc : Nat} {w : World} {g : Nat} (hn : n ≤ 1048576) (h : Cu B n p cap gc oc w g) :
    Calls Tryd.prog 36 #[.pointer (some ⟨g, 0, none⟩)] w fun e w' => ∃ x : Int, (-9223372036854775808 ≤ x ∧ x ≤ 9223372036854775807) ∧ e = .returned (.int .i64 x) ∧ Cu B n p cap gc oc w' g ∧ w.grownBy w' (some g) := by
  have H := Lib.hid h
  clear h
  go_enter Tryd.func36, Tryd.ntmps36
  go_wp2_with fail
  refine (below_at hn H.out 4 _ rfl (by omega) (by omega)).mono ?_
  rintro e w1 ⟨x, hx, rfl, hc1, hg1⟩
  have HC1 := Lib.hid hc1
  have HG1 := Lib.hid hg1
  clear hc1 hg1
  rcases (show x = 0 ∨ x = 1 ∨ 2 ≤ x by omega) with h0 | h0 | h0
  · have x0a : ((x : Int) == 0) = true := by rw [beq_iff_eq]; omega
    have x0b : decide ((x : Int) = 0) = true := decide_eq_true (by omega)
    clear h0
    go_wp2_with fail
    refine (pickNew hn HC1.out [-1, 0, 127, 128, 16383, 16384, 1000000000, 1000000001, 9223372036854775807, -9223372036854775808] 10 10 rfl (by decide) (by decide) #[.int .i64 (-1), .int .i64 0, .int .i64 127, .int .i64 128, .int .i64 16383, .int .i64 16384, .int .i64 1000000000, .int .i64 1000000001, .int .i64 9223372036854775807, .int .i64 (-9223372036854775808)] rfl 3).mono ?_
    rintro e w2 ⟨v, hv, rfl, hc2, hg2⟩
    have hvb : -9223372036854775808 ≤ v ∧ v ≤ 9223372036854775807 := by
      simp only [List.mem_cons, List.mem_nil_iff, or_false] at hv
      omega
    have HV := Lib.hid hvb
    clear hv hvb
    go_wp2_with fail
    go_ret
    exact ⟨v, HV.out, rfl, hc2, HG1.out.trans hg2⟩
  · have x0a : ((x : Int) == 0) = false := by simp; omega
    have x1a : ((x : Int) == 1) = true := by rw [beq_iff_eq]; omega
    have x1b : decide ((x : Int) = 1) = true := decide_eq_true (by omega)
    clear h0
    go_wp2_with fail
    refine (below_at hn HC1.out 1000000000 _ rfl (by omega) (by omega)).mono ?_
    rintro e w2 ⟨y, hy, rfl, hc2, hg2⟩
    go_wp2_with fail
    go_ret
    exact ⟨(y : Int), by omega, rfl, hc2, HG1.out.trans hg2⟩
  · have x0a : ((x : Int) == 0) = false := by simp; omega
    have x1a : ((x : Int) == 1) = false := by simp; omega
    clear h0
    go_wp2_with fail
    refine (below_at hn HC1.out 400 _ rfl (by omega) (by omega)).mono ?_
    rintro e w2 ⟨y, hy, rfl, hc2, hg2⟩
    go_wp2_with fail
    go_ret
    exact ⟨(y : Int), by omega, rfl, hc2, HG1.out.trans hg2⟩

end Go.Proofs.YtopkdkehkdhmgabDoor
