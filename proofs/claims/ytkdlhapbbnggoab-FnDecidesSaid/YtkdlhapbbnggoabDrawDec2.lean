/- What the draws of any screen, of a time and of a decision hand out. -/
import Derived.Test.YtkdlhapbbnggoabDrawDec
import Derived.Test.YtkdlhapbbnggoabDrawScr2
namespace Go.Proofs.Ytkdlhapbbnggoab
open Go.RowKit
set_option linter.unusedVariables false

set_option maxRecDepth 100000 in
set_option maxHeartbeats 8000000 in
theorem l04AnyScreen_any {B n : Nat} {p : Option Addr} {cap gc oc : Nat} {w : World} {g : Nat} (hn : n ≤ 1048576) (h : Cu B n p cap gc oc w g) :
    Calls Try.prog 100 #[.pointer (some ⟨g, 0, none⟩)] w fun e w' => ∃ L S V : Int, (-1 ≤ S ∧ S ≤ 100001) ∧ e = .returned (.agg #[.int .i64 L, .int .i64 S, .int .i64 V]) ∧ Cu B n p cap gc oc w' g ∧ w.grownBy w' (some g) := by
  have H := Lib.hid h
  have hgl := h.lt
  have hgB := h.base
  clear h
  go_enter Try.func100, Try.ntmps100
  go_wp2_with fail
  obtain ⟨w0, hw0⟩ : ∃ x, x = w.alloc (.cells #[.int .i64 0, .int .i64 0, .int .i64 0] 71) := ⟨_, rfl⟩
  have hs0 : w.heap.size + 1 = w0.heap.size := by rw [hw0]; simp
  have C0 : Hid (Cu B n p cap gc oc w0 g) := by rw [hw0]; exact H.out.allocd _
  have G0 : Hid (w.grownBy w0 (some g)) := by rw [hw0]; exact World.grownBy_alloc w _ _
  have R0 : Hid (w0.heap[w.heap.size]? = some (.cells #[.int .i64 0, .int .i64 0, .int .i64 0] 71 (0, 0))) := by rw [hw0]; exact heap_new _ _ _ rfl
  rw [← hw0]
  clear hw0
  refine (l04Screen_any hn C0.out).mono ?_
  rintro e w1 ⟨L, S, V, hs, hs99, rfl, hc1, hg1⟩
  have C1 := Lib.hid hc1
  have G1 := Lib.hid (G0.out.trans hg1)
  have R1 := Lib.hid (blk_grown R0.out hg1 (by omega))
  have hl1 := blk_lt R1.out
  have hS : -1 ≤ S ∧ S ≤ 100001 := by have := hs.2.1; omega
  clear hc1 hg1 hs hs99
  go_wp2_with fail
  obtain ⟨w2, hw2⟩ : ∃ q, q = w1.alloc (.cells #[.int .i64 L, .int .i64 S, .int .i64 V] 71) := ⟨_, rfl⟩
  have C2 : Hid (Cu B n p cap gc oc w2 g) := by rw [hw2]; exact C1.out.allocd _
  have G2 : Hid (w.grownBy w2 (some g)) := by rw [hw2]; exact grown_alloc2 G1.out _
  have R2 : Hid (w2.heap[w.heap.size]? = some (.cells #[.int .i64 0, .int .i64 0, .int .i64 0] 71 (0, 0))) := by rw [hw2]; exact (heap_old _ _ _ hl1).trans R1.out
  have T2 : Hid (w2.heap[w1.heap.size]? = some (.cells #[.int .i64 L, .int .i64 S, .int .i64 V] 71 (0, 0))) := by rw [hw2]; exact heap_new _ _ _ rfl
  have hgT : g < w1.heap.size := C1.out.lt
  rw [← hw2]
  clear hw2
  refine (below_at hn C2.out 16 _ rfl (by omega) (by omega)).mono ?_
  rintro e w3 ⟨m, hm, rfl, hc3, hg3⟩
  have C3 := Lib.hid hc3
  have G3 := Lib.hid (G2.out.trans hg3)
  have R3 := Lib.hid (blk_grown R2.out hg3 (by omega))
  have T3 := Lib.hid (blk_grown T2.out hg3 (by omega))
  clear hc3 hg3
  have hRT : w.heap.size ≠ w1.heap.size := by omega
  have hTR : w1.heap.size ≠ w.heap.size := by omega
  by_cases m0 : m = 0
  · subst m0
    go_wp2_with fail
    refine (pickNew hn C3.out [0, 5, -1, 4] 4 4 rfl (by decide) (by decide) _ rfl _).mono ?_
    rintro e w4 ⟨x, hx, rfl, hc4, hg4⟩
    have C4 := Lib.hid hc4
    have G4 := Lib.hid (G3.out.trans hg4)
    have R4 := Lib.hid (blk_grown R3.out hg4 (by omega))
    have T4 := Lib.hid (blk_grown T3.out hg4 (by omega))
    have hxr : -1 ≤ x ∧ x ≤ 100001 := by simp at hx; omega
    clear hc4 hg4 hx
    obtain ⟨t0, t1, t2, s0, s1, s2⟩ := cells3 T4.out
    go_upto_region 9 with fail
    obtain ⟨w5, hw5⟩ : ∃ q, q = w4.setCell ⟨w1.heap.size, 0, none⟩ (.int .i64 x) := ⟨_, rfl⟩
    have C5 : Hid (Cu B n p cap gc oc w5 g) := by rw [hw5]; exact C4.out.far ⟨w1.heap.size, 0, none⟩ _ (by show g ≠ w1.heap.size; omega) (by show B ≤ w1.heap.size; omega)
    have G5 : Hid (w.grownBy w5 (some g)) := by rw [hw5]; exact grown_setCell G4.out (p := ⟨w1.heap.size, 0, none⟩) (.inr (by show w.heap.size ≤ w1.heap.size; omega)) _
    have R5 : Hid (w5.heap[w.heap.size]? = some (.cells #[.int .i64 0, .int .i64 0, .int .i64 0] 71 (0, 0))) := by rw [hw5]; exact (blk_far (by show w1.heap.size ≠ w.heap.size; omega)).trans R4.out
    have T5 : Hid (w5.heap[w1.heap.size]? = some (.cells #[.int .i64 (x), .int .i64 (S), .int .i64 (V)] 71 (0, 0))) := by rw [hw5]; exact blk_set (o := 0) T4.out _
    rw [← hw5]
    clear hw5 t0 t1 t2 s0 s1 s2
    obtain ⟨r0, r1, r2, q0, q1, q2⟩ := cells3 R5.out
    obtain ⟨t0, t1, t2, s0, s1, s2⟩ := cells3 T5.out
    go_wp2_with fail
    refine bodyPost_ret (v := .agg #[.int .i64 (x), .int .i64 (S), .int .i64 (V)]) (by obtain ⟨y0, y1, y2⟩ := cells_res (R5.out) (.int .i64 (x)) (.int .i64 (S)) (.int .i64 (V)); simp [results, Try.results100, go_sem, y0, y1, y2]) rfl ⟨x, S, V, ⟨by omega, by omega⟩, rfl, ?_, ?_⟩
    · exact ((C5.out.far ⟨w.heap.size, 0, none⟩ _ (by show g ≠ w.heap.size; omega) (by show B ≤ w.heap.size; omega)).far ⟨w.heap.size, 1, none⟩ _ (by show g ≠ w.heap.size; omega) (by show B ≤ w.heap.size; omega)).far ⟨w.heap.size, 2, none⟩ _ (by show g ≠ w.heap.size; omega) (by show B ≤ w.heap.size; omega)
    · exact grown_setCell (grown_setCell (grown_setCell G5.out (p := ⟨w.heap.size, 0, none⟩) (.inr (Nat.le_refl _)) _) (p := ⟨w.heap.size, 1, none⟩) (.inr (Nat.le_refl _)) _) (p := ⟨w.heap.size, 2, none⟩) (.inr (Nat.le_refl _)) _
  have m0d : ((m : Int) == 0) = false := by simpa using (show ¬ (m : Int) = 0 by omega)
  by_cases m1 : m = 1
  · subst m1
    go_wp2_with fail
    refine (pickNew hn C3.out [-1, 100000, 100001, 99990] 4 4 rfl (by decide) (by decide) _ rfl _).mono ?_
    rintro e w4 ⟨x, hx, rfl, hc4, hg4⟩
    have C4 := Lib.hid hc4
    have G4 := Lib.hid (G3.out.trans hg4)
    have R4 := Lib.hid (blk_grown R3.out hg4 (by omega))
    have T4 := Lib.hid (blk_grown T3.out hg4 (by omega))
    have hxr : -1 ≤ x ∧ x ≤ 100001 := by simp at hx; omega
    clear hc4 hg4 hx
    obtain ⟨t0, t1, t2, s0, s1, s2⟩ := cells3 T4.out
    go_upto_region 9 with fail
    obtain ⟨w5, hw5⟩ : ∃ q, q = w4.setCell ⟨w1.heap.size, 1, none⟩ (.int .i64 x) := ⟨_, rfl⟩
    have C5 : Hid (Cu B n p cap gc oc w5 g) := by rw [hw5]; exact C4.out.far ⟨w1.heap.size, 1, none⟩ _ (by show g ≠ w1.heap.size; omega) (by show B ≤ w1.heap.size; omega)
    have G5 : Hid (w.grownBy w5 (some g)) := by rw [hw5]; exact grown_setCell G4.out (p := ⟨w1.heap.size, 1, none⟩) (.inr (by show w.heap.size ≤ w1.heap.size; omega)) _
    have R5 : Hid (w5.heap[w.heap.size]? = some (.cells #[.int .i64 0, .int .i64 0, .int .i64 0] 71 (0, 0))) := by rw [hw5]; exact (blk_far (by show w1.heap.size ≠ w.heap.size; omega)).trans R4.out
    have T5 : Hid (w5.heap[w1.heap.size]? = some (.cells #[.int .i64 (L), .int .i64 (x), .int .i64 (V)] 71 (0, 0))) := by rw [hw5]; exact blk_set (o := 1) T4.out _
    rw [← hw5]
    clear hw5 t0 t1 t2 s0 s1 s2
    obtain ⟨r0, r1, r2, q0, q1, q2⟩ := cells3 R5.out
    obtain ⟨t0, t1, t2, s0, s1, s2⟩ := cells3 T5.out
    go_wp2_with fail
    refine bodyPost_ret (v := .agg #[.int .i64 (L), .int .i64 (x), .int .i64 (V)]) (by obtain ⟨y0, y1, y2⟩ := cells_res (R5.out) (.int .i64 (L)) (.int .i64 (x)) (.int .i64 (V)); simp [results, Try.results100, go_sem, y0, y1, y2]) rfl ⟨L, x, V, ⟨by omega, by omega⟩, rfl, ?_, ?_⟩
    · exact ((C5.out.far ⟨w.heap.size, 0, none⟩ _ (by show g ≠ w.heap.size; omega) (by show B ≤ w.heap.size; omega)).far ⟨w.heap.size, 1, none⟩ _ (by show g ≠ w.heap.size; omega) (by show B ≤ w.heap.size; omega)).far ⟨w.heap.size, 2, none⟩ _ (by show g ≠ w.heap.size; omega) (by show B ≤ w.heap.size; omega)
    · exact grown_setCell (grown_setCell (grown_setCell G5.out (p := ⟨w.heap.size, 0, none⟩) (.inr (Nat.le_refl _)) _) (p := ⟨w.heap.size, 1, none⟩) (.inr (Nat.le_refl _)) _) (p := ⟨w.heap.size, 2, none⟩) (.inr (Nat.le_refl _)) _
  have m1d : ((m : Int) == 1) = false := by simpa using (show ¬ (m : Int) = 1 by omega)
  by_cases m2 : m = 2
  · subst m2
    go_wp2_with fail
    refine (pickNew hn C3.out [-1, 2, 3] 3 3 rfl (by decide) (by decide) _ rfl _).mono ?_
    rintro e w4 ⟨x, hx, rfl, hc4, hg4⟩
    have C4 := Lib.hid hc4
    have G4 := Lib.hid (G3.out.trans hg4)
    have R4 := Lib.hid (blk_grown R3.out hg4 (by omega))
    have T4 := Lib.hid (blk_grown T3.out hg4 (by omega))
    have hxr : -1 ≤ x ∧ x ≤ 100001 := by simp at hx; omega
    clear hc4 hg4 hx
    obtain ⟨t0, t1, t2, s0, s1, s2⟩ := cells3 T4.out
    go_upto_region 9 with fail
    obtain ⟨w5, hw5⟩ : ∃ q, q = w4.setCell ⟨w1.heap.size, 2, none⟩ (.int .i64 x) := ⟨_, rfl⟩
    have C5 : Hid (Cu B n p cap gc oc w5 g) := by rw [hw5]; exact C4.out.far ⟨w1.heap.size, 2, none⟩ _ (by show g ≠ w1.heap.size; omega) (by show B ≤ w1.heap.size; omega)
    have G5 : Hid (w.grownBy w5 (some g)) := by rw [hw5]; exact grown_setCell G4.out (p := ⟨w1.heap.size, 2, none⟩) (.inr (by show w.heap.size ≤ w1.heap.size; omega)) _
    have R5 : Hid (w5.heap[w.heap.size]? = some (.cells #[.int .i64 0, .int .i64 0, .int .i64 0] 71 (0, 0))) := by rw [hw5]; exact (blk_far (by show w1.heap.size ≠ w.heap.size; omega)).trans R4.out
    have T5 : Hid (w5.heap[w1.heap.size]? = some (.cells #[.int .i64 (L), .int .i64 (S), .int .i64 (x)] 71 (0, 0))) := by rw [hw5]; exact blk_set (o := 2) T4.out _
    rw [← hw5]
    clear hw5 t0 t1 t2 s0 s1 s2
    obtain ⟨r0, r1, r2, q0, q1, q2⟩ := cells3 R5.out
    obtain ⟨t0, t1, t2, s0, s1, s2⟩ := cells3 T5.out
    go_wp2_with fail
    refine bodyPost_ret (v := .agg #[.int .i64 (L), .int .i64 (S), .int .i64 (x)]) (by obtain ⟨y0, y1, y2⟩ := cells_res (R5.out) (.int .i64 (L)) (.int .i64 (S)) (.int .i64 (x)); simp [results, Try.results100, go_sem, y0, y1, y2]) rfl ⟨L, S, x, ⟨by omega, by omega⟩, rfl, ?_, ?_⟩
    · exact ((C5.out.far ⟨w.heap.size, 0, none⟩ _ (by show g ≠ w.heap.size; omega) (by show B ≤ w.heap.size; omega)).far ⟨w.heap.size, 1, none⟩ _ (by show g ≠ w.heap.size; omega) (by show B ≤ w.heap.size; omega)).far ⟨w.heap.size, 2, none⟩ _ (by show g ≠ w.heap.size; omega) (by show B ≤ w.heap.size; omega)
    · exact grown_setCell (grown_setCell (grown_setCell G5.out (p := ⟨w.heap.size, 0, none⟩) (.inr (Nat.le_refl _)) _) (p := ⟨w.heap.size, 1, none⟩) (.inr (Nat.le_refl _)) _) (p := ⟨w.heap.size, 2, none⟩) (.inr (Nat.le_refl _)) _
  have m2d : ((m : Int) == 2) = false := by simpa using (show ¬ (m : Int) = 2 by omega)
  obtain ⟨r0, r1, r2, q0, q1, q2⟩ := cells3 R3.out
  obtain ⟨t0, t1, t2, s0, s1, s2⟩ := cells3 T3.out
  go_wp2_with fail
  refine bodyPost_ret (v := .agg #[.int .i64 (L), .int .i64 (S), .int .i64 (V)]) (by obtain ⟨y0, y1, y2⟩ := cells_res (R3.out) (.int .i64 (L)) (.int .i64 (S)) (.int .i64 (V)); simp [results, Try.results100, go_sem, y0, y1, y2]) rfl ⟨L, S, V, ⟨by omega, by omega⟩, rfl, ?_, ?_⟩
  · exact ((C3.out.far ⟨w.heap.size, 0, none⟩ _ (by show g ≠ w.heap.size; omega) (by show B ≤ w.heap.size; omega)).far ⟨w.heap.size, 1, none⟩ _ (by show g ≠ w.heap.size; omega) (by show B ≤ w.heap.size; omega)).far ⟨w.heap.size, 2, none⟩ _ (by show g ≠ w.heap.size; omega) (by show B ≤ w.heap.size; omega)
  · exact grown_setCell (grown_setCell (grown_setCell G3.out (p := ⟨w.heap.size, 0, none⟩) (.inr (Nat.le_refl _)) _) (p := ⟨w.heap.size, 1, none⟩) (.inr (Nat.le_refl _)) _) (p := ⟨w.heap.size, 2, none⟩) (.inr (Nat.le_refl _)) _


set_option maxRecDepth 100000 in
set_option maxHeartbeats 8000000 in
theorem l04Now_any {B n : Nat} {p : Option Addr} {cap gc oc : Nat} {w : World} {g : Nat} (hn : n ≤ 1048576) (h : Cu B n p cap gc oc w g) (L S V : Int) :
    Calls Try.prog 101 #[.pointer (some ⟨g, 0, none⟩), .agg #[.int .i64 L, .int .i64 S, .int .i64 V]] w fun e w' => ∃ x : Int, e = .returned (.int .i64 x) ∧ Cu B n p cap gc oc w' g ∧ w.grownBy w' (some g) := by
  have H := Lib.hid h
  have hgl := h.lt
  have hgB := h.base
  clear h
  go_enter Try.func101, Try.ntmps101
  go_wp2_with fail
  obtain ⟨w0, hw0⟩ : ∃ x, x = w.alloc (.cells #[.int .i64 L, .int .i64 S, .int .i64 V] 71) := ⟨_, rfl⟩
  have C0 : Hid (Cu B n p cap gc oc w0 g) := by rw [hw0]; exact H.out.allocd _
  have G0 : Hid (w.grownBy w0 (some g)) := by rw [hw0]; exact World.grownBy_alloc w _ _
  have T0 : Hid (w0.heap[w.heap.size]? = some (.cells #[.int .i64 L, .int .i64 S, .int .i64 V] 71 (0, 0))) := by rw [hw0]; exact heap_new _ _ _ rfl
  rw [← hw0]
  clear hw0
  refine (once_at hn C0.out 12 _ rfl (by omega) (by omega)).mono ?_
  rintro e w3 ⟨b1, rfl, hc3, hg3⟩
  have C3 := Lib.hid hc3
  have G3 := Lib.hid (G0.out.trans hg3)
  have T3 := Lib.hid (blk_grown T0.out hg3 (by omega))
  clear hc3 hg3
  cases b1
  rotate_left
  · go_wp2_with fail
    refine (pickNew hn C3.out [-1, 0, 100000, 100001, -9223372036854775808] 5 5 rfl (by decide) (by decide) _ rfl _).mono ?_
    rintro e w4 ⟨x, hx, rfl, hc4, hg4⟩
    have C4 := Lib.hid hc4
    have G4 := Lib.hid (G3.out.trans hg4)
    clear hc4 hg4 hx
    go_wp2_with fail
    go_ret
    exact ⟨_, rfl, C4.out, G4.out⟩
  obtain ⟨t0, t1, t2, s0, s1, s2⟩ := cells3 T3.out
  have hTg : w.heap.size ≠ g := by omega
  have hg3 : g < w3.heap.size := C3.out.lt
  have hYg : w3.heap.size ≠ g := by omega
  have hDx : ∀ W : World, W.grownBy W.drew (some g) := fun W => ⟨rfl, rfl, rfl, Nat.le_refl _, fun _ _ _ => rfl⟩
  go_wp2_with fail
  go_region_held3 (fun K => K.cell? ⟨w.heap.size, 1, none⟩ = some (.int .i64 S))
    (first | exact t1 | exact kt1 | go_keep)
    (first | (go_at_call 84; (first | ((refine (pickNew hn C3.out.drewn [0, 0, 1, 2, 5, 7, 12, 25, 60, -1] 10 10 rfl (by decide) (by decide) _ rfl _).mono ?_); rintro e k1 ⟨x, hx, rfl, c1, gr1⟩; have GR := Lib.hid ((G3.out.trans (hDx _)).trans gr1); have kt1 := (cells3 (blk_grown (w := w3.drew) T3.out gr1 hTg)).2.1) | ((refine (pickAt hn (C3.out.allocd _).drewn [0, 0, 1, 2, 5, 7, 12, 25, 60, -1] w3.heap.size 10 10 rfl (by decide) (by decide) hYg _ rfl _ (heap_newd w3 _)).mono ?_); rintro e k1 ⟨x, hx, rfl, c1, gr1⟩; have GR := Lib.hid (((grown_alloc2 G3.out _).trans (hDx _)).trans gr1); have kt1 := (cells3 (blk_grown (w := (w3.alloc _).drew) ((heap_old _ _ _ (blk_lt T3.out)).trans T3.out) gr1 hTg)).2.1)); have CC := Lib.hid c1; clear c1 gr1 hx))
  all_goals
    go_wp2_with fail
    go_ret
    exact ⟨_, rfl, CC.out, GR.out⟩

end Go.Proofs.Ytkdlhapbbnggoab
