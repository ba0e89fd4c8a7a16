/- What the draws of a valid policy and a valid screen hand out. -/
import Derived.Test.YtkdlhapbbnggoabDraw
import Derived.Test.YtkdlhapbbnggoabCode
import Derived.Test.YtkdlhapbbnggoabElapse0
import Derived.Test.YtkdlhapbbnggoabBlk
import Derived.Deep.RegionHeld3
namespace Go.Proofs.Ytkdlhapbbnggoab
open Go.RowKit
set_option linter.unusedVariables false

theorem grown_alloc2 {w w1 : World} {g : Nat} (h : w.grownBy w1 (some g)) (o : Obj) : w.grownBy (w1.alloc o) (some g) := h.trans (World.grownBy_alloc w1 _ _)
theorem blk_grown {w w1 : World} {g k : Nat} {o : Obj} (h : w.heap[k]? = some o) (hg : w.grownBy w1 (some g)) (hne : k ≠ g) : w1.heap[k]? = some o := (hg.block k (blk_lt h) (by intro e; injection e with e; exact hne e)).trans h
theorem Cu.far {B n : Nat} {p : Option Addr} {cap gc oc : Nat} {w : World} {g : Nat} (h : Cu B n p cap gc oc w g) (q : Addr) (v : Value) (h1 : g ≠ q.block) (h2 : B ≤ q.block) : Cu B n p cap gc oc (w.setCell q v) g :=
  h.kept (Below.heap_setCell _ _ _ _ h1) (fun k hk => Below.heap_setCell _ _ _ _ (by omega))
theorem Cu.allocd {B n : Nat} {p : Option Addr} {cap gc oc : Nat} {w : World} {g : Nat} (h : Cu B n p cap gc oc w g) (o : Obj) : Cu B n p cap gc oc (w.alloc o) g := h.below ((Below.refl _ _).alloc (Nat.le_refl _) _)

set_option maxRecDepth 100000 in
set_option maxHeartbeats 2000000 in
theorem l04Policy_any {B n : Nat} {p : Option Addr} {cap gc oc : Nat} {w : World} {g : Nat} (hn : n ≤ 1048576) (h : Cu B n p cap gc oc w g) :
    Calls Try.prog 94 #[.pointer (some ⟨g, 0, none⟩)] w fun e w' => ∃ (x y z : Int) (k : Nat), (1 ≤ x ∧ x ≤ 6) ∧ (1 ≤ y ∧ y ≤ 20) ∧ (1 ≤ z ∧ z ≤ 30) ∧ e = .returned (.agg #[.slice (some ⟨k, 0, none⟩) 3 3]) ∧ w.heap.size ≤ k ∧ w'.heap[k]? = some (.cells #[.int .i64 x, .int .i64 y, .int .i64 z] 3 (0, 0)) ∧ Cu B n p cap gc oc w' g ∧ w.grownBy w' (some g) := by
  have H := Lib.hid h
  have hgl := h.lt
  have hgB := h.base
  clear h
  go_enter Try.func94, Try.ntmps94
  go_wp2_with fail
  refine (below_at hn (H.out.allocd _) 6 _ rfl (by omega) (by omega)).mono ?_
  rintro e w1 ⟨x, hx, rfl, hc1, hg1⟩
  have hR1 : w1.heap[w.heap.size]? = some (.cells #[.slice none 0 0] 69 (0, 0)) := blk_grown (heap_new _ _ _ rfl) hg1 (by omega)
  have C1 := Lib.hid hc1
  have G1 := Lib.hid ((World.grownBy_alloc w _ _).trans hg1)
  have R1 := Lib.hid hR1
  clear hc1 hg1 hR1
  go_wp2_with fail
  refine (below_at hn C1.out 20 _ rfl (by omega) (by omega)).mono ?_
  rintro e w2 ⟨y, hy, rfl, hc2, hg2⟩
  have R2 := Lib.hid (blk_grown R1.out hg2 (by omega))
  have C2 := Lib.hid hc2
  have G2 := Lib.hid (G1.out.trans hg2)
  clear hc2 hg2
  go_wp2_with fail
  refine (below_at hn C2.out 30 _ rfl (by omega) (by omega)).mono ?_
  rintro e w3 ⟨z, hz, rfl, hc3, hg3⟩
  have hR3 := blk_grown R2.out hg3 (by omega)
  have C3 := Lib.hid hc3
  have G3 := Lib.hid (G2.out.trans hg3)
  have hl3 := blk_lt hR3
  obtain ⟨r0, r1⟩ := cells1 hR3
  have R3 := Lib.hid hR3
  clear hc3 hg3 hR3
  have hx6 : (x : Int) < 6 := by omega
  have hy6 : (y : Int) < 20 := by omega
  have hz6 : (z : Int) < 30 := by omega
  go_wp2_with fail
  have hs3 : w.heap.size ≤ w3.heap.size := by omega
  refine bodyPost_ret (v := .agg #[.slice (some ⟨w3.heap.size, 0, none⟩) 3 3]) (by
    have hk : ((w3.setCell ⟨w.heap.size, 0, none⟩ (.slice (some ⟨w3.heap.size, 0, none⟩) 3 3)).alloc (.cells #[.int .i64 (1 + (x : Int)), .int .i64 (1 + (y : Int)), .int .i64 (1 + (z : Int))] 3)).cell? ⟨w.heap.size, 0, none⟩ = some (.slice (some ⟨w3.heap.size, 0, none⟩) 3 3) := (cells1 ((heap_old _ _ _ (by simpa [World.setCell] using hl3)).trans (blk_set (o := 0) R3.out _))).1
    simp [results, Try.results94, go_sem, hk]) rfl ⟨1 + (x : Int), 1 + (y : Int), 1 + (z : Int), w3.heap.size, by omega, by omega, by omega, rfl, hs3, ?_, ?_, ?_⟩
  · exact heap_new _ _ _ (by simp [World.setCell])
  · exact (C3.out.far ⟨w.heap.size, 0, none⟩ _ (by show g ≠ w.heap.size; omega) (by show B ≤ w.heap.size; omega)).allocd _
  · exact grown_alloc2 (grown_setCell G3.out (p := ⟨w.heap.size, 0, none⟩) (.inr (Nat.le_refl _)) _) _

set_option maxRecDepth 100000 in
set_option maxHeartbeats 4000000 in
theorem l04Screen_any {B n : Nat} {p : Option Addr} {cap gc oc : Nat} {w : World} {g : Nat} (hn : n ≤ 1048576) (h : Cu B n p cap gc oc w g) :
    Calls Try.prog 95 #[.pointer (some ⟨g, 0, none⟩)] w fun e w' => ∃ L S V : Int, ScP L S V ∧ S ≤ 99 ∧ e = .returned (.agg #[.int .i64 L, .int .i64 S, .int .i64 V]) ∧ Cu B n p cap gc oc w' g ∧ w.grownBy w' (some g) := by
  have H := Lib.hid h
  have hgl := h.lt
  have hgB := h.base
  clear h
  go_enter Try.func95, Try.ntmps95
  go_wp2_with fail
  obtain ⟨w0, hw0⟩ : ∃ x, x = w.alloc (.cells #[.int .i64 0, .int .i64 0, .int .i64 0] 71) := ⟨_, rfl⟩
  have hs0 : w.heap.size + 1 = w0.heap.size := by rw [hw0]; simp
  have C0 : Hid (Cu B n p cap gc oc w0 g) := by rw [hw0]; exact H.out.allocd _
  have G0 : Hid (w.grownBy w0 (some g)) := by rw [hw0]; exact World.grownBy_alloc w _ _
  have R0 : Hid (w0.heap[w.heap.size]? = some (.cells #[.int .i64 0, .int .i64 0, .int .i64 0] 71 (0, 0))) := by rw [hw0]; exact heap_new _ _ _ rfl
  rw [← hw0, hs0]
  clear hw0
  refine (pickNew hn C0.out [0, 0, 1, 2, 3] 5 5 rfl (by decide) (by decide) _ rfl _).mono ?_
  rintro e w1 ⟨x, hx, rfl, hc1, hg1⟩
  have C1 := Lib.hid hc1
  have G1 := Lib.hid (G0.out.trans hg1)
  have R1 := Lib.hid (blk_grown R0.out hg1 (by omega))
  have hx03 : 0 ≤ x ∧ x ≤ 3 := by simp at hx; omega
  clear hc1 hg1 hx
  go_wp2_with fail
  refine (below_at hn C1.out 100 _ rfl (by omega) (by omega)).mono ?_
  rintro e w2 ⟨y, hy, rfl, hc2, hg2⟩
  have C2 := Lib.hid hc2
  have G2 := Lib.hid (G1.out.trans hg2)
  have R2 := Lib.hid (blk_grown R1.out hg2 (by omega))
  have hl2 := blk_lt R2.out
  clear hc2 hg2
  go_wp2_with fail
  obtain ⟨wt, hwt⟩ : ∃ q, q = w2.alloc (.cells #[.int .i64 (1 + x), .int .i64 (y : Int), .int .i64 0] 71) := ⟨_, rfl⟩
  have CT : Hid (Cu B n p cap gc oc wt g) := by rw [hwt]; exact C2.out.allocd _
  have GT : Hid (w.grownBy wt (some g)) := by rw [hwt]; exact grown_alloc2 G2.out _
  have RT : Hid (wt.heap[w.heap.size]? = some (.cells #[.int .i64 0, .int .i64 0, .int .i64 0] 71 (0, 0))) := by rw [hwt]; exact (heap_old _ _ _ hl2).trans R2.out
  have TT : Hid (wt.heap[w2.heap.size]? = some (.cells #[.int .i64 (1 + x), .int .i64 (y : Int), .int .i64 0] 71 (0, 0))) := by rw [hwt]; exact heap_new _ _ _ rfl
  have hgT : g < w2.heap.size := C2.out.lt
  rw [← hwt]
  clear hwt
  refine (once_at hn CT.out 5 _ rfl (by omega) (by omega)).mono ?_
  rintro e w3 ⟨b1, rfl, hc3, hg3⟩
  have C3 := Lib.hid hc3
  have G3 := Lib.hid (GT.out.trans hg3)
  have R3 := Lib.hid (blk_grown RT.out hg3 (by omega))
  have T3 := Lib.hid (blk_grown TT.out hg3 (by omega))
  clear hc3 hg3
  have hRT : w.heap.size ≠ w2.heap.size := by omega
  have hTR : w2.heap.size ≠ w.heap.size := by omega
  obtain ⟨r0, r1, r2, q0, q1, q2⟩ := cells3 R3.out
  obtain ⟨t0, t1, t2, s0, s1, s2⟩ := cells3 T3.out
  cases b1
  rotate_left
  · go_upto_region 6 with fail
    obtain ⟨w5, hw5⟩ : ∃ q, q = w3.setCell ⟨w2.heap.size, 2, none⟩ (.int .i64 1) := ⟨_, rfl⟩
    have C5 : Hid (Cu B n p cap gc oc w5 g) := by rw [hw5]; exact C3.out.far ⟨w2.heap.size, 2, none⟩ _ (by show g ≠ w2.heap.size; omega) (by show B ≤ w2.heap.size; omega)
    have G5 : Hid (w.grownBy w5 (some g)) := by rw [hw5]; exact grown_setCell G3.out (p := ⟨w2.heap.size, 2, none⟩) (.inr (by show w.heap.size ≤ w2.heap.size; omega)) _
    have R5 : Hid (w5.heap[w.heap.size]? = some (.cells #[.int .i64 0, .int .i64 0, .int .i64 0] 71 (0, 0))) := by rw [hw5]; exact (blk_far (by show w2.heap.size ≠ w.heap.size; omega)).trans R3.out
    have T5 : Hid (w5.heap[w2.heap.size]? = some (.cells #[.int .i64 (1 + x), .int .i64 (y : Int), .int .i64 1] 71 (0, 0))) := by rw [hw5]; exact blk_set (o := 2) T3.out _
    rw [← hw5]
    clear hw5 r0 r1 r2 q0 q1 q2 t0 t1 t2 s0 s1 s2
    obtain ⟨r0, r1, r2, q0, q1, q2⟩ := cells3 R5.out
    obtain ⟨t0, t1, t2, s0, s1, s2⟩ := cells3 T5.out
    go_wp2_with fail
    refine bodyPost_ret (v := .agg #[.int .i64 (1 + x), .int .i64 (y : Int), .int .i64 (1)]) (by obtain ⟨y0, y1, y2⟩ := cells_res (R5.out) (.int .i64 (1 + x)) (.int .i64 (y : Int)) (.int .i64 (1)); simp [results, Try.results95, go_sem, y0, y1, y2]) rfl ⟨1 + x, (y : Int), 1, ⟨by omega, by omega, by omega⟩, by omega, rfl, ?_, ?_⟩
    · exact ((C5.out.far ⟨w.heap.size, 0, none⟩ _ (by show g ≠ w.heap.size; omega) (by show B ≤ w.heap.size; omega)).far ⟨w.heap.size, 1, none⟩ _ (by show g ≠ w.heap.size; omega) (by show B ≤ w.heap.size; omega)).far ⟨w.heap.size, 2, none⟩ _ (by show g ≠ w.heap.size; omega) (by show B ≤ w.heap.size; omega)
    · exact grown_setCell (grown_setCell (grown_setCell G5.out (p := ⟨w.heap.size, 0, none⟩) (.inr (Nat.le_refl _)) _) (p := ⟨w.heap.size, 1, none⟩) (.inr (Nat.le_refl _)) _) (p := ⟨w.heap.size, 2, none⟩) (.inr (Nat.le_refl _)) _
  · by_cases hx3 : x = 3
    · subst hx3
      go_wp2_with fail
      refine (once_at hn C3.out 4 _ rfl (by omega) (by omega)).mono ?_
      rintro e w4 ⟨b2, rfl, hc4, hg4⟩
      have C4 := Lib.hid hc4
      have G4 := Lib.hid (G3.out.trans hg4)
      have R4 := Lib.hid (blk_grown R3.out hg4 (by omega))
      have T4 := Lib.hid (blk_grown T3.out hg4 (by omega))
      clear hc4 hg4 r0 r1 r2 q0 q1 q2 t0 t1 t2 s0 s1 s2
      obtain ⟨r0, r1, r2, q0, q1, q2⟩ := cells3 R4.out
      obtain ⟨t0, t1, t2, s0, s1, s2⟩ := cells3 T4.out
      cases b2
      rotate_left
      · go_upto_region 6 with fail
        obtain ⟨w5, hw5⟩ : ∃ q, q = w4.setCell ⟨w2.heap.size, 2, none⟩ (.int .i64 2) := ⟨_, rfl⟩
        have C5 : Hid (Cu B n p cap gc oc w5 g) := by rw [hw5]; exact C4.out.far ⟨w2.heap.size, 2, none⟩ _ (by show g ≠ w2.heap.size; omega) (by show B ≤ w2.heap.size; omega)
        have G5 : Hid (w.grownBy w5 (some g)) := by rw [hw5]; exact grown_setCell G4.out (p := ⟨w2.heap.size, 2, none⟩) (.inr (by show w.heap.size ≤ w2.heap.size; omega)) _
        have R5 : Hid (w5.heap[w.heap.size]? = some (.cells #[.int .i64 0, .int .i64 0, .int .i64 0] 71 (0, 0))) := by rw [hw5]; exact (blk_far (by show w2.heap.size ≠ w.heap.size; omega)).trans R4.out
        have T5 : Hid (w5.heap[w2.heap.size]? = some (.cells #[.int .i64 (4), .int .i64 (y : Int), .int .i64 2] 71 (0, 0))) := by rw [hw5]; exact blk_set (o := 2) T4.out _
        rw [← hw5]
        clear hw5 r0 r1 r2 q0 q1 q2 t0 t1 t2 s0 s1 s2
        obtain ⟨r0, r1, r2, q0, q1, q2⟩ := cells3 R5.out
        obtain ⟨t0, t1, t2, s0, s1, s2⟩ := cells3 T5.out
        go_wp2_with fail
        refine bodyPost_ret (v := .agg #[.int .i64 (4), .int .i64 (y : Int), .int .i64 (2)]) (by obtain ⟨y0, y1, y2⟩ := cells_res (R5.out) (.int .i64 (4)) (.int .i64 (y : Int)) (.int .i64 (2)); simp [results, Try.results95, go_sem, y0, y1, y2]) rfl ⟨4, (y : Int), 2, ⟨by omega, by omega, by omega⟩, by omega, rfl, ?_, ?_⟩
        · exact ((C5.out.far ⟨w.heap.size, 0, none⟩ _ (by show g ≠ w.heap.size; omega) (by show B ≤ w.heap.size; omega)).far ⟨w.heap.size, 1, none⟩ _ (by show g ≠ w.heap.size; omega) (by show B ≤ w.heap.size; omega)).far ⟨w.heap.size, 2, none⟩ _ (by show g ≠ w.heap.size; omega) (by show B ≤ w.heap.size; omega)
        · exact grown_setCell (grown_setCell (grown_setCell G5.out (p := ⟨w.heap.size, 0, none⟩) (.inr (Nat.le_refl _)) _) (p := ⟨w.heap.size, 1, none⟩) (.inr (Nat.le_refl _)) _) (p := ⟨w.heap.size, 2, none⟩) (.inr (Nat.le_refl _)) _
      · go_wp2_with fail
        refine bodyPost_ret (v := .agg #[.int .i64 (4), .int .i64 (y : Int), .int .i64 (0)]) (by obtain ⟨y0, y1, y2⟩ := cells_res (R4.out) (.int .i64 (4)) (.int .i64 (y : Int)) (.int .i64 (0)); simp [results, Try.results95, go_sem, y0, y1, y2]) rfl ⟨4, (y : Int), 0, ⟨by omega, by omega, by omega⟩, by omega, rfl, ?_, ?_⟩
        · exact ((C4.out.far ⟨w.heap.size, 0, none⟩ _ (by show g ≠ w.heap.size; omega) (by show B ≤ w.heap.size; omega)).far ⟨w.heap.size, 1, none⟩ _ (by show g ≠ w.heap.size; omega) (by show B ≤ w.heap.size; omega)).far ⟨w.heap.size, 2, none⟩ _ (by show g ≠ w.heap.size; omega) (by show B ≤ w.heap.size; omega)
        · exact grown_setCell (grown_setCell (grown_setCell G4.out (p := ⟨w.heap.size, 0, none⟩) (.inr (Nat.le_refl _)) _) (p := ⟨w.heap.size, 1, none⟩) (.inr (Nat.le_refl _)) _) (p := ⟨w.heap.size, 2, none⟩) (.inr (Nat.le_refl _)) _
    · have hx4 : (1 + x == 4) = false := by simpa using (show ¬ 1 + x = 4 by omega)
      go_wp2_with fail
      refine bodyPost_ret (v := .agg #[.int .i64 (1 + x), .int .i64 (y : Int), .int .i64 (0)]) (by obtain ⟨y0, y1, y2⟩ := cells_res (R3.out) (.int .i64 (1 + x)) (.int .i64 (y : Int)) (.int .i64 (0)); simp [results, Try.results95, go_sem, y0, y1, y2]) rfl ⟨1 + x, (y : Int), 0, ⟨by omega, by omega, by omega⟩, by omega, rfl, ?_, ?_⟩
      · exact ((C3.out.far ⟨w.heap.size, 0, none⟩ _ (by show g ≠ w.heap.size; omega) (by show B ≤ w.heap.size; omega)).far ⟨w.heap.size, 1, none⟩ _ (by show g ≠ w.heap.size; omega) (by show B ≤ w.heap.size; omega)).far ⟨w.heap.size, 2, none⟩ _ (by show g ≠ w.heap.size; omega) (by show B ≤ w.heap.size; omega)
      · exact grown_setCell (grown_setCell (grown_setCell G3.out (p := ⟨w.heap.size, 0, none⟩) (.inr (Nat.le_refl _)) _) (p := ⟨w.heap.size, 1, none⟩) (.inr (Nat.le_refl _)) _) (p := ⟨w.heap.size, 2, none⟩) (.inr (Nat.le_refl _)) _

end Go.Proofs.Ytkdlhapbbnggoab
