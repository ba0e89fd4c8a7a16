/- What the draw of any tag leaves. -/
import Derived.Test.YtopkdkehkdhmgabDoorDrawTag
namespace Go.Proofs.YtopkdkehkdhmgabDoor
open Go.RowKit
set_option linter.unusedVariables false

set_option maxRecDepth 100000 in
set_option maxHeartbeats 2000000 in
/-- A tag of whatever numbers. -/
theorem anytag_any {B n : Nat} {p : Option Addr} {cap gc oc : Nat} {w : World} {g : Nat} (hn : n ≤ 1048576) (h : Cu B n p cap gc oc w g) :
    Calls Tryd.prog 47 #[.pointer (some ⟨g, 0, none⟩)] w fun e w' => ∃ a b c : Int, e = .returned (.agg #[.int .i64 a, .int .i64 b, .int .i64 c]) ∧ Cu B n p cap gc oc w' g ∧ w.grownBy w' (some g) := by
  have hgl := h.lt
  have hgr : w.heap.size ≠ g := by omega
  have hBr : B ≤ w.heap.size := by have := h.base; omega
  have hA : Below w.heap.size w (w.alloc (.cells #[.int .i64 0, .int .i64 0, .int .i64 0] 36)) := (Below.refl _ _).alloc (Nat.le_refl _) _
  have HC0 := Lib.hid (h.below hA)
  have HR0 := Lib.hid (B3.new w 0 0 0 36)
  have HG0 := Lib.hid (World.grownBy_alloc w (.cells #[.int .i64 0, .int .i64 0, .int .i64 0] 36) (some g))
  clear h hA
  go_enter Tryd.func47, Tryd.ntmps47
  go_wp2_with fail
  refine (tagd_any hn HC0.out).mono ?_
  rintro e w1 ⟨a, b, c, -, rfl, hc1, hg1⟩
  have HC1 := Lib.hid hc1
  have HR1 := Lib.hid (HR0.out.grown hg1 hgr)
  have HG1 := Lib.hid (HG0.out.trans hg1)
  have hg1l := hc1.lt
  have hr1l := HR1.out.lt
  have hgt : w1.heap.size ≠ g := by omega
  have hBt : B ≤ w1.heap.size := by have := hc1.base; omega
  have hws : w.heap.size ≤ w1.heap.size := HG1.out.size
  clear hc1 hg1
  go_wp2_with fail
  have HC3 := Lib.hid (HC1.out.below ((Below.refl _ w1).alloc (Nat.le_refl _) (.cells #[.int .i64 a, .int .i64 b, .int .i64 c] 36)))
  have HR3 := Lib.hid (HR1.out.alloc (.cells #[.int .i64 a, .int .i64 b, .int .i64 c] 36))
  have HT3 := Lib.hid (B3.new w1 a b c 36)
  have HG3 := Lib.hid (HG1.out.trans (World.grownBy_alloc w1 (.cells #[.int .i64 a, .int .i64 b, .int .i64 c] 36) (some g)))
  refine (below_at hn HC3.out 14 _ rfl (by omega) (by omega)).mono ?_
  rintro e w4 ⟨x, hx, rfl, hc4, hg4⟩
  have HC4 := Lib.hid hc4
  have HR4 := Lib.hid (HR3.out.grown hg4 hgr)
  have HT4 := Lib.hid (HT3.out.grown hg4 hgt)
  have HG4 := Lib.hid (HG3.out.trans hg4)
  clear hc4 hg4 HC3 HR3 HT3 HG3
  rcases (show x = 0 ∨ x = 1 ∨ x = 2 ∨ 3 ≤ x by omega) with h0 | h0 | h0 | h0
  · have x0a : ((x : Int) == 0) = true := by rw [beq_iff_eq]; omega
    have x0b : decide ((x : Int) = 0) = true := decide_eq_true (by omega)
    go_wp2_with fail
    refine (pickNew hn HC4.out [-1, 10, 9] 3 3 rfl (by decide) (by decide) #[.int .i64 (-1), .int .i64 10, .int .i64 9] rfl 3).mono ?_
    rintro e wB ⟨v, -, rfl, hcB, hgB⟩
    have HTB0 := HT4.out.grown hgB hgt
    have HRB0 := HR4.out.grown hgB hgr
    have HGB0 := HG4.out.trans hgB
    obtain ⟨t0, -, -, f0, -, -⟩ := HTB0.cells
    obtain ⟨wD, hwD⟩ : ∃ wD, wD = wB.setCell ⟨w1.heap.size, 0, none⟩ (.int .i64 v) := ⟨_, rfl⟩
    have HCD := Lib.hid (show Cu B n p cap gc oc wD g by rw [hwD]; exact hcB.set _ _ hgt.symm hBt)
    have HRD := Lib.hid (show B3 wD w.heap.size 0 0 0 36 by rw [hwD]; exact HRB0.other _ _ (by show w.heap.size ≠ w1.heap.size; omega))
    have HTD := Lib.hid (show B3 wD w1.heap.size v b c 36 by rw [hwD]; exact HTB0.set0 v)
    have HGD := Lib.hid (show w.grownBy wD (some g) by rw [hwD]; exact grown_new HGB0 _ _ hws)
    have HWD := Lib.hid hwD
    clear hcB hgB HTB0 HRB0 HGB0 hwD
    obtain ⟨y0, y1, y2, -, -, -⟩ := HTD.out.cells
    obtain ⟨q0, q1, q2, u0, u1, u2⟩ := HRD.out.cells
    obtain ⟨z0, z1, z2⟩ := threeC (w := wD) (.int .i64 v) (.int .i64 b) (.int .i64 c) q0 q1 q2
    rw [HWD.out] at y0 y1 y2 q0 q1 q2 u0 u1 u2 z0 z1 z2
    go_wp2_with fail
    refine bodyPost_ret (v := .agg #[.int .i64 v, .int .i64 b, .int .i64 c]) (by simp [results, Tryd.results47, go_sem, *]) rfl ⟨v, b, c, rfl, ?_, ?_⟩
    · have := ((HCD.out.set ⟨w.heap.size, 0, none⟩ (.int .i64 v) hgr.symm hBr).set ⟨w.heap.size, 1, none⟩ (.int .i64 b) hgr.symm hBr).set ⟨w.heap.size, 2, none⟩ (.int .i64 c) hgr.symm hBr
      rw [HWD.out] at this
      exact this
    · have := grown_new (grown_new (grown_new HGD.out ⟨w.heap.size, 0, none⟩ (.int .i64 v) (Nat.le_refl _)) ⟨w.heap.size, 1, none⟩ (.int .i64 b) (Nat.le_refl _)) ⟨w.heap.size, 2, none⟩ (.int .i64 c) (Nat.le_refl _)
      rw [HWD.out] at this
      exact this
  · have x0a : ((x : Int) == 0) = false := by rw [beq_eq_false_iff_ne]; omega
    have x0b : decide ((x : Int) = 0) = false := decide_eq_false (by omega)
    have x1a : ((x : Int) == 1) = true := by rw [beq_iff_eq]; omega
    have x1b : decide ((x : Int) = 1) = true := decide_eq_true (by omega)
    go_wp2_with fail
    refine (pickNew hn HC4.out [0, -1, 1000] 3 3 rfl (by decide) (by decide) #[.int .i64 0, .int .i64 (-1), .int .i64 1000] rfl 3).mono ?_
    rintro e wB ⟨v, -, rfl, hcB, hgB⟩
    have HTB0 := HT4.out.grown hgB hgt
    have HRB0 := HR4.out.grown hgB hgr
    have HGB0 := HG4.out.trans hgB
    obtain ⟨-, t1, -, -, f1, -⟩ := HTB0.cells
    obtain ⟨wD, hwD⟩ : ∃ wD, wD = wB.setCell ⟨w1.heap.size, 1, none⟩ (.int .i64 v) := ⟨_, rfl⟩
    have HCD := Lib.hid (show Cu B n p cap gc oc wD g by rw [hwD]; exact hcB.set _ _ hgt.symm hBt)
    have HRD := Lib.hid (show B3 wD w.heap.size 0 0 0 36 by rw [hwD]; exact HRB0.other _ _ (by show w.heap.size ≠ w1.heap.size; omega))
    have HTD := Lib.hid (show B3 wD w1.heap.size a v c 36 by rw [hwD]; exact HTB0.set1 v)
    have HGD := Lib.hid (show w.grownBy wD (some g) by rw [hwD]; exact grown_new HGB0 _ _ hws)
    have HWD := Lib.hid hwD
    clear hcB hgB HTB0 HRB0 HGB0 hwD
    obtain ⟨y0, y1, y2, -, -, -⟩ := HTD.out.cells
    obtain ⟨q0, q1, q2, u0, u1, u2⟩ := HRD.out.cells
    obtain ⟨z0, z1, z2⟩ := threeC (w := wD) (.int .i64 a) (.int .i64 v) (.int .i64 c) q0 q1 q2
    rw [HWD.out] at y0 y1 y2 q0 q1 q2 u0 u1 u2 z0 z1 z2
    go_wp2_with fail
    refine bodyPost_ret (v := .agg #[.int .i64 a, .int .i64 v, .int .i64 c]) (by simp [results, Tryd.results47, go_sem, *]) rfl ⟨a, v, c, rfl, ?_, ?_⟩
    · have := ((HCD.out.set ⟨w.heap.size, 0, none⟩ (.int .i64 a) hgr.symm hBr).set ⟨w.heap.size, 1, none⟩ (.int .i64 v) hgr.symm hBr).set ⟨w.heap.size, 2, none⟩ (.int .i64 c) hgr.symm hBr
      rw [HWD.out] at this
      exact this
    · have := grown_new (grown_new (grown_new HGD.out ⟨w.heap.size, 0, none⟩ (.int .i64 a) (Nat.le_refl _)) ⟨w.heap.size, 1, none⟩ (.int .i64 v) (Nat.le_refl _)) ⟨w.heap.size, 2, none⟩ (.int .i64 c) (Nat.le_refl _)
      rw [HWD.out] at this
      exact this
  · have x0a : ((x : Int) == 0) = false := by rw [beq_eq_false_iff_ne]; omega
    have x0b : decide ((x : Int) = 0) = false := decide_eq_false (by omega)
    have x1a : ((x : Int) == 1) = false := by rw [beq_eq_false_iff_ne]; omega
    have x1b : decide ((x : Int) = 1) = false := decide_eq_false (by omega)
    have x2a : ((x : Int) == 2) = true := by rw [beq_iff_eq]; omega
    have x2b : decide ((x : Int) = 2) = true := decide_eq_true (by omega)
    go_wp2_with fail
    refine (pickNew hn HC4.out [-1, 1000000, 9223372036854775807] 3 3 rfl (by decide) (by decide) #[.int .i64 (-1), .int .i64 1000000, .int .i64 9223372036854775807] rfl 3).mono ?_
    rintro e wB ⟨v, -, rfl, hcB, hgB⟩
    have HTB0 := HT4.out.grown hgB hgt
    have HRB0 := HR4.out.grown hgB hgr
    have HGB0 := HG4.out.trans hgB
    obtain ⟨-, -, t2, -, -, f2⟩ := HTB0.cells
    obtain ⟨wD, hwD⟩ : ∃ wD, wD = wB.setCell ⟨w1.heap.size, 2, none⟩ (.int .i64 v) := ⟨_, rfl⟩
    have HCD := Lib.hid (show Cu B n p cap gc oc wD g by rw [hwD]; exact hcB.set _ _ hgt.symm hBt)
    have HRD := Lib.hid (show B3 wD w.heap.size 0 0 0 36 by rw [hwD]; exact HRB0.other _ _ (by show w.heap.size ≠ w1.heap.size; omega))
    have HTD := Lib.hid (show B3 wD w1.heap.size a b v 36 by rw [hwD]; exact HTB0.set2 v)
    have HGD := Lib.hid (show w.grownBy wD (some g) by rw [hwD]; exact grown_new HGB0 _ _ hws)
    have HWD := Lib.hid hwD
    clear hcB hgB HTB0 HRB0 HGB0 hwD
    obtain ⟨y0, y1, y2, -, -, -⟩ := HTD.out.cells
    obtain ⟨q0, q1, q2, u0, u1, u2⟩ := HRD.out.cells
    obtain ⟨z0, z1, z2⟩ := threeC (w := wD) (.int .i64 a) (.int .i64 b) (.int .i64 v) q0 q1 q2
    rw [HWD.out] at y0 y1 y2 q0 q1 q2 u0 u1 u2 z0 z1 z2
    go_wp2_with fail
    refine bodyPost_ret (v := .agg #[.int .i64 a, .int .i64 b, .int .i64 v]) (by simp [results, Tryd.results47, go_sem, *]) rfl ⟨a, b, v, rfl, ?_, ?_⟩
    · have := ((HCD.out.set ⟨w.heap.size, 0, none⟩ (.int .i64 a) hgr.symm hBr).set ⟨w.heap.size, 1, none⟩ (.int .i64 b) hgr.symm hBr).set ⟨w.heap.size, 2, none⟩ (.int .i64 v) hgr.symm hBr
      rw [HWD.out] at this
      exact this
    · have := grown_new (grown_new (grown_new HGD.out ⟨w.heap.size, 0, none⟩ (.int .i64 a) (Nat.le_refl _)) ⟨w.heap.size, 1, none⟩ (.int .i64 b) (Nat.le_refl _)) ⟨w.heap.size, 2, none⟩ (.int .i64 v) (Nat.le_refl _)
      rw [HWD.out] at this
      exact this
  · have x0a : ((x : Int) == 0) = false := by rw [beq_eq_false_iff_ne]; omega
    have x0b : decide ((x : Int) = 0) = false := decide_eq_false (by omega)
    have x1a : ((x : Int) == 1) = false := by rw [beq_eq_false_iff_ne]; omega
    have x1b : decide ((x : Int) = 1) = false := decide_eq_false (by omega)
    have x2a : ((x : Int) == 2) = false := by rw [beq_eq_false_iff_ne]; omega
    have x2b : decide ((x : Int) = 2) = false := decide_eq_false (by omega)
    have HTD := HT4
    have HRD := HR4
    obtain ⟨y0, y1, y2, -, -, -⟩ := HTD.out.cells
    obtain ⟨q0, q1, q2, u0, u1, u2⟩ := HRD.out.cells
    obtain ⟨z0, z1, z2⟩ := threeC (w := w4) (.int .i64 a) (.int .i64 b) (.int .i64 c) q0 q1 q2
    go_wp2_with fail
    refine bodyPost_ret (v := .agg #[.int .i64 a, .int .i64 b, .int .i64 c]) (by simp [results, Tryd.results47, go_sem, *]) rfl ⟨a, b, c, rfl, ?_, ?_⟩
    · exact ((HC4.out.set ⟨w.heap.size, 0, none⟩ (.int .i64 a) hgr.symm hBr).set ⟨w.heap.size, 1, none⟩ (.int .i64 b) hgr.symm hBr).set ⟨w.heap.size, 2, none⟩ (.int .i64 c) hgr.symm hBr
    · exact grown_new (grown_new (grown_new HG4.out ⟨w.heap.size, 0, none⟩ (.int .i64 a) (Nat.le_refl _)) ⟨w.heap.size, 1, none⟩ (.int .i64 b) (Nat.le_refl _)) ⟨w.heap.size, 2, none⟩ (.int .i64 c) (Nat.le_refl _)

end Go.Proofs.YtopkdkehkdhmgabDoor
