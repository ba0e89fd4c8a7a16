/- What the model's Enter returns. -/
import Derived.Test.YtobcgidakbbhpabEnterI
import Derived.Test.YtobcgidakbbhpabStepS
namespace Go.Proofs.Ytobcgidakbbhpab
open Go.RowKit

set_option maxRecDepth 100000 in
set_option maxHeartbeats 4000000 in
theorem sEnter_any (n : Nat) (hn : n ≤ 1048576) (z : Nat → Int) (p : Option Addr) (c g o : Nat) (L G : Int) (H : Bool) (bag size : Int) (w : World) (h : FlatAt w 0 w.heap.size p g o (n * 3) (fun j => .int .i64 (z j))) :
    Calls Try.prog 38 #[.agg #[.int .i64 L, .int .i64 G, .bool H, .slice p n c], .int .i64 bag, .int .i64 size] w fun e w' => ∃ p' c', e = .returned (.tuple #[.agg #[.int .i64 L, .int .i64 G, .bool H, .slice p' (enN L G n z bag size) c'], .bool (enB L G n z bag size)]) ∧ enN L G n z bag size ≤ c' ∧ RowNew w' w.heap.size p' (enN L G n z bag size * 3) (enZ L G n z bag size) ∧ Below w.heap.size w w' := by
  have hfr := Lib.hid (fun W (hb : Below w.heap.size w W) => fresh_any n hn z p c g o L G H W ((h.below hb (Nat.le_refl _)).wide (Nat.zero_le _) hb.size))
  have hbo := Lib.hid (fun (W : World) (B : Nat) (p' : Option Addr) (c' : Nat) (hr : RowNew W B p' (n * 3) z) => (by
    obtain ⟨g', o', h1, h2⟩ := hr
    exact sBeltOk_any n (by unfold maxLen; omega) z p' c' g' o' L G H W (h1.wide (Nat.zero_le _) (Nat.le_refl _)) : Calls Try.prog 25 #[.agg #[.int .i64 L, .int .i64 G, .bool H, .slice p' n c']] W fun e w' => e = .returned (.bool (okB L G n z)) ∧ Below W.heap.size W w'))
  have c3 := cellsItemS
  have hfe := Lib.hid (fun (W : World) (B : Nat) (p' : Option Addr) (c' : Nat) (hr : RowNew W B p' (n * 3) z) => (by
    obtain ⟨g', o', h1, h2⟩ := hr
    exact sFree_any n (by unfold maxLen; omega) z p' c' g' o' L G H W (h1.wide (Nat.zero_le _) (Nat.le_refl _)) : Calls Try.prog 44 #[.agg #[.int .i64 L, .int .i64 G, .bool H, .slice p' n c']] W fun e w' => e = .returned (.int .i64 (frB L G n z)) ∧ Below W.heap.size W w'))
  clear h
  rcases Bool.eq_false_or_eq_true (okB L G n z) with hk | hk
  rotate_left
  · have hen : ¬ enOk L G n z bag size := fun h => by have := h.1; rw [hk] at this; exact absurd this (by decide)
    simp only [hk] at hbo
    obtain ⟨e1, e2, e3⟩ := en_no (bag := bag) (size := size) hen
    rw [e1, e2, e3]
    clear e1 e2 e3 hen
    clear hk
    go_enter Try.func38, Try.ntmps38
    go_wp2_with (go_at_call 75; refine (hfr.out _ (by repeat (first | exact Below.refl _ _ | refine Below.alloc ?_ (by simp <;> omega) _ | refine Below.setCell ?_ (by simp <;> omega) _ | refine Below.drew ?_))).mono ?_; rintro e w2 ⟨p', c', rfl, hcc, hown, hb2⟩; have hx2 : w2.heap[w.heap.size]? = some (.cells #[.int .i64 L, .int .i64 G, .bool H, .slice p n c] 28 (0, 0)) := (hb2.block w.heap.size (by simp <;> omega)).trans ((heap_old _ _ _ (by simp)).trans (heap_new _ _ _ rfl)); obtain ⟨x0, x1, x2, x3, x4, x5, x6, x7⟩ := cells4 hx2; have hz2 : w.heap.size + 1 + 1 ≤ w2.heap.size := (by have := hb2.size; simpa using this); have HX2 := Lib.hid hx2; have hy2 : w2.heap[w.heap.size + 1]? = some (.cells #[.int .i64 0, .int .i64 0, .bool false, .slice none 0 0] 28 (0, 0)) := (hb2.block (w.heap.size + 1) (by simp <;> omega)).trans (heap_new _ _ _ (by simp)); have HY2 := Lib.hid hy2; clear hy2; have HB2 := Lib.hid hb2; clear hx2 hb2)
    obtain ⟨g', f1, f2⟩ := hown.flat
    obtain ⟨wa, hwa⟩ : ∃ wa, wa = ((((w2.setCell ⟨w.heap.size, 0, none⟩ (.int .i64 L)).setCell ⟨w.heap.size, 1, none⟩ (.int .i64 G)).setCell ⟨w.heap.size, 2, none⟩ (.bool H)).setCell ⟨w.heap.size, 3, none⟩ (.slice p' n c')) := ⟨_, rfl⟩
    have hxa : wa.heap[w.heap.size]? = some (.cells #[.int .i64 L, .int .i64 G, .bool H, .slice p' n c'] 28 (0, 0)) := by rw [hwa]; exact blk_set (blk_set (blk_set (blk_set HX2.out _) _) _) _
    have hya : wa.heap[w.heap.size + 1]? = some (.cells #[.int .i64 0, .int .i64 0, .bool false, .slice none 0 0] 28 (0, 0)) := by rw [hwa]; exact (Below.heap_setCell _ _ _ _ (by simp)).trans ((Below.heap_setCell _ _ _ _ (by simp)).trans ((Below.heap_setCell _ _ _ _ (by simp)).trans ((Below.heap_setCell _ _ _ _ (by simp)).trans HY2.out)))
    have hsa : wa.heap.size = w2.heap.size := by rw [hwa]; simp [World.setCell]
    have f1' := f1.wide (show w.heap.size + 1 + 1 ≤ _ by simp) (Nat.le_refl _)
    have ra : RowNew wa (w.heap.size + 1 + 1) p' (n * 3) z := by rw [hwa]; exact ((((RowNew.of_flat (Nat.le_refl _) (Nat.le_refl _) (h1 := f1') (h2 := f2)).far _ (by simp <;> omega)).far _ (by simp <;> omega)).far _ (by simp <;> omega)).far _ (by simp <;> omega)
    have hba : Below w.heap.size w wa := by rw [hwa]; exact ((((below_via HB2.out (by repeat (first | exact Below.refl _ _ | refine Below.alloc ?_ (by simp <;> omega) _ | refine Below.setCell ?_ (by simp <;> omega) _ | refine Below.drew ?_)) (by simp <;> omega)).setCell (by simp) _).setCell (by simp) _).setCell (by simp) _).setCell (by simp) _
    have HWA := Lib.hid hwa
    clear hwa f1 f1' f2 hown x0 x1 x2 x3 x4 x5 x6 x7 HX2 HY2 HB2
    rw [← HWA.out]
    have XA := Lib.hid hxa
    have YA := Lib.hid hya
    have RA := Lib.hid ra
    have BA := Lib.hid hba
    clear hxa hya ra hba
    obtain ⟨x0, x1, x2, x3, -, -, -, -⟩ := cells4 XA.out
    go_wp2_with fail
    refine (hbo.out wa _ p' c' RA.out).mono ?_
    rintro e w3 ⟨rfl, hb3⟩
    have h3 : Below w.heap.size w w3 := BA.out.trans (hb3.mono (by omega))
    have X3 := Lib.hid ((hb3.block _ (by omega)).trans XA.out)
    have Y3 := Lib.hid ((hb3.block _ (by omega)).trans YA.out)
    have R3 := Lib.hid (RA.out.below hb3)
    have B3 := Lib.hid h3
    have hs3 := hb3.size
    clear h3 hb3 x0 x1 x2 x3 RA BA XA YA HWA
    obtain ⟨x0, x1, x2, x3, x4, x5, x6, x7⟩ := cells4 X3.out
    obtain ⟨z0, z1, z2, z3, z4, z5, z6, z7⟩ := cells4 Y3.out
    go_wp2_with fail
    refine bodyPost_ret (v := .tuple #[.agg #[.int .i64 L, .int .i64 G, .bool H, .slice p' (n) (c')], .bool false]) (by simp [results, Try.results38, go_sem, z0, z1, z2, z3]) rfl ⟨p', c', rfl, hcc, ?_, ?_⟩
    · exact (((((R3.out).far _ (by simp <;> omega)).far _ (by simp <;> omega)).far _ (by simp <;> omega)).far _ (by simp <;> omega)).wide (by omega)
    · exact (((B3.out.setCell (by simp <;> omega) _).setCell (by simp <;> omega) _).setCell (by simp <;> omega) _).setCell (by simp <;> omega) _
  by_cases hbag : 1 ≤ bag
  rotate_left
  · have hen : ¬ enOk L G n z bag size := fun h => hbag h.2.1
    simp only [hk] at hbo
    have hd : decide (bag < 1) = true := decide_eq_true (by omega)
    obtain ⟨e1, e2, e3⟩ := en_no (bag := bag) (size := size) hen
    rw [e1, e2, e3]
    clear e1 e2 e3 hen
    clear hk
    go_enter Try.func38, Try.ntmps38
    go_wp2_with (go_at_call 75; refine (hfr.out _ (by repeat (first | exact Below.refl _ _ | refine Below.alloc ?_ (by simp <;> omega) _ | refine Below.setCell ?_ (by simp <;> omega) _ | refine Below.drew ?_))).mono ?_; rintro e w2 ⟨p', c', rfl, hcc, hown, hb2⟩; have hx2 : w2.heap[w.heap.size]? = some (.cells #[.int .i64 L, .int .i64 G, .bool H, .slice p n c] 28 (0, 0)) := (hb2.block w.heap.size (by simp <;> omega)).trans ((heap_old _ _ _ (by simp)).trans (heap_new _ _ _ rfl)); obtain ⟨x0, x1, x2, x3, x4, x5, x6, x7⟩ := cells4 hx2; have hz2 : w.heap.size + 1 + 1 ≤ w2.heap.size := (by have := hb2.size; simpa using this); have HX2 := Lib.hid hx2; have hy2 : w2.heap[w.heap.size + 1]? = some (.cells #[.int .i64 0, .int .i64 0, .bool false, .slice none 0 0] 28 (0, 0)) := (hb2.block (w.heap.size + 1) (by simp <;> omega)).trans (heap_new _ _ _ (by simp)); have HY2 := Lib.hid hy2; clear hy2; have HB2 := Lib.hid hb2; clear hx2 hb2)
    obtain ⟨g', f1, f2⟩ := hown.flat
    obtain ⟨wa, hwa⟩ : ∃ wa, wa = ((((w2.setCell ⟨w.heap.size, 0, none⟩ (.int .i64 L)).setCell ⟨w.heap.size, 1, none⟩ (.int .i64 G)).setCell ⟨w.heap.size, 2, none⟩ (.bool H)).setCell ⟨w.heap.size, 3, none⟩ (.slice p' n c')) := ⟨_, rfl⟩
    have hxa : wa.heap[w.heap.size]? = some (.cells #[.int .i64 L, .int .i64 G, .bool H, .slice p' n c'] 28 (0, 0)) := by rw [hwa]; exact blk_set (blk_set (blk_set (blk_set HX2.out _) _) _) _
    have hya : wa.heap[w.heap.size + 1]? = some (.cells #[.int .i64 0, .int .i64 0, .bool false, .slice none 0 0] 28 (0, 0)) := by rw [hwa]; exact (Below.heap_setCell _ _ _ _ (by simp)).trans ((Below.heap_setCell _ _ _ _ (by simp)).trans ((Below.heap_setCell _ _ _ _ (by simp)).trans ((Below.heap_setCell _ _ _ _ (by simp)).trans HY2.out)))
    have hsa : wa.heap.size = w2.heap.size := by rw [hwa]; simp [World.setCell]
    have f1' := f1.wide (show w.heap.size + 1 + 1 ≤ _ by simp) (Nat.le_refl _)
    have ra : RowNew wa (w.heap.size + 1 + 1) p' (n * 3) z := by rw [hwa]; exact ((((RowNew.of_flat (Nat.le_refl _) (Nat.le_refl _) (h1 := f1') (h2 := f2)).far _ (by simp <;> omega)).far _ (by simp <;> omega)).far _ (by simp <;> omega)).far _ (by simp <;> omega)
    have hba : Below w.heap.size w wa := by rw [hwa]; exact ((((below_via HB2.out (by repeat (first | exact Below.refl _ _ | refine Below.alloc ?_ (by simp <;> omega) _ | refine Below.setCell ?_ (by simp <;> omega) _ | refine Below.drew ?_)) (by simp <;> omega)).setCell (by simp) _).setCell (by simp) _).setCell (by simp) _).setCell (by simp) _
    have HWA := Lib.hid hwa
    clear hwa f1 f1' f2 hown x0 x1 x2 x3 x4 x5 x6 x7 HX2 HY2 HB2
    rw [← HWA.out]
    have XA := Lib.hid hxa
    have YA := Lib.hid hya
    have RA := Lib.hid ra
    have BA := Lib.hid hba
    clear hxa hya ra hba
    obtain ⟨x0, x1, x2, x3, -, -, -, -⟩ := cells4 XA.out
    go_wp2_with fail
    refine (hbo.out wa _ p' c' RA.out).mono ?_
    rintro e w3 ⟨rfl, hb3⟩
    have h3 : Below w.heap.size w w3 := BA.out.trans (hb3.mono (by omega))
    have X3 := Lib.hid ((hb3.block _ (by omega)).trans XA.out)
    have Y3 := Lib.hid ((hb3.block _ (by omega)).trans YA.out)
    have R3 := Lib.hid (RA.out.below hb3)
    have B3 := Lib.hid h3
    have hs3 := hb3.size
    clear h3 hb3 x0 x1 x2 x3 RA BA XA YA HWA
    obtain ⟨x0, x1, x2, x3, x4, x5, x6, x7⟩ := cells4 X3.out
    obtain ⟨z0, z1, z2, z3, z4, z5, z6, z7⟩ := cells4 Y3.out
    go_wp2_with fail
    refine bodyPost_ret (v := .tuple #[.agg #[.int .i64 L, .int .i64 G, .bool H, .slice p' (n) (c')], .bool false]) (by simp [results, Try.results38, go_sem, z0, z1, z2, z3]) rfl ⟨p', c', rfl, hcc, ?_, ?_⟩
    · exact (((((R3.out).far _ (by simp <;> omega)).far _ (by simp <;> omega)).far _ (by simp <;> omega)).far _ (by simp <;> omega)).wide (by omega)
    · exact (((B3.out.setCell (by simp <;> omega) _).setCell (by simp <;> omega) _).setCell (by simp <;> omega) _).setCell (by simp <;> omega) _
  have hdb : decide (bag < 1) = false := decide_eq_false (by omega)
  rcases Bool.eq_false_or_eq_true (inB 1 60 size) with hs | hs
  rotate_left
  · have hen : ¬ enOk L G n z bag size := fun h => by have := h.2.2.2.1; rw [hs] at this; exact absurd this (by decide)
    simp only [hk] at hbo
    have HS := Lib.hid hs
    obtain ⟨e1, e2, e3⟩ := en_no (bag := bag) (size := size) hen
    rw [e1, e2, e3]
    clear e1 e2 e3 hen
    clear hk hs
    go_enter Try.func38, Try.ntmps38
    go_wp2_with (go_at_call 75; refine (hfr.out _ (by repeat (first | exact Below.refl _ _ | refine Below.alloc ?_ (by simp <;> omega) _ | refine Below.setCell ?_ (by simp <;> omega) _ | refine Below.drew ?_))).mono ?_; rintro e w2 ⟨p', c', rfl, hcc, hown, hb2⟩; have hx2 : w2.heap[w.heap.size]? = some (.cells #[.int .i64 L, .int .i64 G, .bool H, .slice p n c] 28 (0, 0)) := (hb2.block w.heap.size (by simp <;> omega)).trans ((heap_old _ _ _ (by simp)).trans (heap_new _ _ _ rfl)); obtain ⟨x0, x1, x2, x3, x4, x5, x6, x7⟩ := cells4 hx2; have hz2 : w.heap.size + 1 + 1 ≤ w2.heap.size := (by have := hb2.size; simpa using this); have HX2 := Lib.hid hx2; have hy2 : w2.heap[w.heap.size + 1]? = some (.cells #[.int .i64 0, .int .i64 0, .bool false, .slice none 0 0] 28 (0, 0)) := (hb2.block (w.heap.size + 1) (by simp <;> omega)).trans (heap_new _ _ _ (by simp)); have HY2 := Lib.hid hy2; clear hy2; have HB2 := Lib.hid hb2; clear hx2 hb2)
    obtain ⟨g', f1, f2⟩ := hown.flat
    obtain ⟨wa, hwa⟩ : ∃ wa, wa = ((((w2.setCell ⟨w.heap.size, 0, none⟩ (.int .i64 L)).setCell ⟨w.heap.size, 1, none⟩ (.int .i64 G)).setCell ⟨w.heap.size, 2, none⟩ (.bool H)).setCell ⟨w.heap.size, 3, none⟩ (.slice p' n c')) := ⟨_, rfl⟩
    have hxa : wa.heap[w.heap.size]? = some (.cells #[.int .i64 L, .int .i64 G, .bool H, .slice p' n c'] 28 (0, 0)) := by rw [hwa]; exact blk_set (blk_set (blk_set (blk_set HX2.out _) _) _) _
    have hya : wa.heap[w.heap.size + 1]? = some (.cells #[.int .i64 0, .int .i64 0, .bool false, .slice none 0 0] 28 (0, 0)) := by rw [hwa]; exact (Below.heap_setCell _ _ _ _ (by simp)).trans ((Below.heap_setCell _ _ _ _ (by simp)).trans ((Below.heap_setCell _ _ _ _ (by simp)).trans ((Below.heap_setCell _ _ _ _ (by simp)).trans HY2.out)))
    have hsa : wa.heap.size = w2.heap.size := by rw [hwa]; simp [World.setCell]
    have f1' := f1.wide (show w.heap.size + 1 + 1 ≤ _ by simp) (Nat.le_refl _)
    have ra : RowNew wa (w.heap.size + 1 + 1) p' (n * 3) z := by rw [hwa]; exact ((((RowNew.of_flat (Nat.le_refl _) (Nat.le_refl _) (h1 := f1') (h2 := f2)).far _ (by simp <;> omega)).far _ (by simp <;> omega)).far _ (by simp <;> omega)).far _ (by simp <;> omega)
    have hba : Below w.heap.size w wa := by rw [hwa]; exact ((((below_via HB2.out (by repeat (first | exact Below.refl _ _ | refine Below.alloc ?_ (by simp <;> omega) _ | refine Below.setCell ?_ (by simp <;> omega) _ | refine Below.drew ?_)) (by simp <;> omega)).setCell (by simp) _).setCell (by simp) _).setCell (by simp) _).setCell (by simp) _
    have HWA := Lib.hid hwa
    clear hwa f1 f1' f2 hown x0 x1 x2 x3 x4 x5 x6 x7 HX2 HY2 HB2
    rw [← HWA.out]
    have XA := Lib.hid hxa
    have YA := Lib.hid hya
    have RA := Lib.hid ra
    have BA := Lib.hid hba
    clear hxa hya ra hba
    obtain ⟨x0, x1, x2, x3, -, -, -, -⟩ := cells4 XA.out
    go_wp2_with fail
    refine (hbo.out wa _ p' c' RA.out).mono ?_
    rintro e w3 ⟨rfl, hb3⟩
    have h3 : Below w.heap.size w w3 := BA.out.trans (hb3.mono (by omega))
    have X3 := Lib.hid ((hb3.block _ (by omega)).trans XA.out)
    have Y3 := Lib.hid ((hb3.block _ (by omega)).trans YA.out)
    have R3 := Lib.hid (RA.out.below hb3)
    have B3 := Lib.hid h3
    have hs3 := hb3.size
    clear h3 hb3 x0 x1 x2 x3 RA BA XA YA HWA
    obtain ⟨x0, x1, x2, x3, x4, x5, x6, x7⟩ := cells4 X3.out
    obtain ⟨z0, z1, z2, z3, z4, z5, z6, z7⟩ := cells4 Y3.out
    go_wp2_with (go_at_call 76; refine (specIn_at HS.out _).mono ?_; rintro e w' ⟨rfl, rfl⟩)
    refine bodyPost_ret (v := .tuple #[.agg #[.int .i64 L, .int .i64 G, .bool H, .slice p' (n) (c')], .bool false]) (by simp [results, Try.results38, go_sem, z0, z1, z2, z3]) rfl ⟨p', c', rfl, hcc, ?_, ?_⟩
    · exact (((((R3.out).far _ (by simp <;> omega)).far _ (by simp <;> omega)).far _ (by simp <;> omega)).far _ (by simp <;> omega)).wide (by omega)
    · exact (((B3.out.setCell (by simp <;> omega) _).setCell (by simp <;> omega) _).setCell (by simp <;> omega) _).setCell (by simp <;> omega) _
  have HS := Lib.hid hs
  obtain ⟨s1, s2⟩ := inB_iff.1 hs
  by_cases hn40 : n < 40
  rotate_left
  · have hen : ¬ enOk L G n z bag size := fun h => hn40 h.2.2.2.2.1
    simp only [hk] at hbo
    have hd : decide ((40 : Int) ≤ (n : Int)) = true := decide_eq_true (by omega)
    obtain ⟨e1, e2, e3⟩ := en_no (bag := bag) (size := size) hen
    rw [e1, e2, e3]
    clear e1 e2 e3 hen
    clear hk hs
    go_enter Try.func38, Try.ntmps38
    go_wp2_with (go_at_call 75; refine (hfr.out _ (by repeat (first | exact Below.refl _ _ | refine Below.alloc ?_ (by simp <;> omega) _ | refine Below.setCell ?_ (by simp <;> omega) _ | refine Below.drew ?_))).mono ?_; rintro e w2 ⟨p', c', rfl, hcc, hown, hb2⟩; have hx2 : w2.heap[w.heap.size]? = some (.cells #[.int .i64 L, .int .i64 G, .bool H, .slice p n c] 28 (0, 0)) := (hb2.block w.heap.size (by simp <;> omega)).trans ((heap_old _ _ _ (by simp)).trans (heap_new _ _ _ rfl)); obtain ⟨x0, x1, x2, x3, x4, x5, x6, x7⟩ := cells4 hx2; have hz2 : w.heap.size + 1 + 1 ≤ w2.heap.size := (by have := hb2.size; simpa using this); have HX2 := Lib.hid hx2; have hy2 : w2.heap[w.heap.size + 1]? = some (.cells #[.int .i64 0, .int .i64 0, .bool false, .slice none 0 0] 28 (0, 0)) := (hb2.block (w.heap.size + 1) (by simp <;> omega)).trans (heap_new _ _ _ (by simp)); have HY2 := Lib.hid hy2; clear hy2; have HB2 := Lib.hid hb2; clear hx2 hb2)
    obtain ⟨g', f1, f2⟩ := hown.flat
    obtain ⟨wa, hwa⟩ : ∃ wa, wa = ((((w2.setCell ⟨w.heap.size, 0, none⟩ (.int .i64 L)).setCell ⟨w.heap.size, 1, none⟩ (.int .i64 G)).setCell ⟨w.heap.size, 2, none⟩ (.bool H)).setCell ⟨w.heap.size, 3, none⟩ (.slice p' n c')) := ⟨_, rfl⟩
    have hxa : wa.heap[w.heap.size]? = some (.cells #[.int .i64 L, .int .i64 G, .bool H, .slice p' n c'] 28 (0, 0)) := by rw [hwa]; exact blk_set (blk_set (blk_set (blk_set HX2.out _) _) _) _
    have hya : wa.heap[w.heap.size + 1]? = some (.cells #[.int .i64 0, .int .i64 0, .bool false, .slice none 0 0] 28 (0, 0)) := by rw [hwa]; exact (Below.heap_setCell _ _ _ _ (by simp)).trans ((Below.heap_setCell _ _ _ _ (by simp)).trans ((Below.heap_setCell _ _ _ _ (by simp)).trans ((Below.heap_setCell _ _ _ _ (by simp)).trans HY2.out)))
    have hsa : wa.heap.size = w2.heap.size := by rw [hwa]; simp [World.setCell]
    have f1' := f1.wide (show w.heap.size + 1 + 1 ≤ _ by simp) (Nat.le_refl _)
    have ra : RowNew wa (w.heap.size + 1 + 1) p' (n * 3) z := by rw [hwa]; exact ((((RowNew.of_flat (Nat.le_refl _) (Nat.le_refl _) (h1 := f1') (h2 := f2)).far _ (by simp <;> omega)).far _ (by simp <;> omega)).far _ (by simp <;> omega)).far _ (by simp <;> omega)
    have hba : Below w.heap.size w wa := by rw [hwa]; exact ((((below_via HB2.out (by repeat (first | exact Below.refl _ _ | refine Below.alloc ?_ (by simp <;> omega) _ | refine Below.setCell ?_ (by simp <;> omega) _ | refine Below.drew ?_)) (by simp <;> omega)).setCell (by simp) _).setCell (by simp) _).setCell (by simp) _).setCell (by simp) _
    have HWA := Lib.hid hwa
    clear hwa f1 f1' f2 hown x0 x1 x2 x3 x4 x5 x6 x7 HX2 HY2 HB2
    rw [← HWA.out]
    have XA := Lib.hid hxa
    have YA := Lib.hid hya
    have RA := Lib.hid ra
    have BA := Lib.hid hba
    clear hxa hya ra hba
    obtain ⟨x0, x1, x2, x3, -, -, -, -⟩ := cells4 XA.out
    go_wp2_with fail
    refine (hbo.out wa _ p' c' RA.out).mono ?_
    rintro e w3 ⟨rfl, hb3⟩
    have h3 : Below w.heap.size w w3 := BA.out.trans (hb3.mono (by omega))
    have X3 := Lib.hid ((hb3.block _ (by omega)).trans XA.out)
    have Y3 := Lib.hid ((hb3.block _ (by omega)).trans YA.out)
    have R3 := Lib.hid (RA.out.below hb3)
    have B3 := Lib.hid h3
    have hs3 := hb3.size
    clear h3 hb3 x0 x1 x2 x3 RA BA XA YA HWA
    obtain ⟨x0, x1, x2, x3, x4, x5, x6, x7⟩ := cells4 X3.out
    obtain ⟨z0, z1, z2, z3, z4, z5, z6, z7⟩ := cells4 Y3.out
    go_wp2_with (go_at_call 76; refine (specIn_at HS.out _).mono ?_; rintro e w' ⟨rfl, rfl⟩)
    refine bodyPost_ret (v := .tuple #[.agg #[.int .i64 L, .int .i64 G, .bool H, .slice p' (n) (c')], .bool false]) (by simp [results, Try.results38, go_sem, z0, z1, z2, z3]) rfl ⟨p', c', rfl, hcc, ?_, ?_⟩
    · exact (((((R3.out).far _ (by simp <;> omega)).far _ (by simp <;> omega)).far _ (by simp <;> omega)).far _ (by simp <;> omega)).wide (by omega)
    · exact (((B3.out.setCell (by simp <;> omega) _).setCell (by simp <;> omega) _).setCell (by simp <;> omega) _).setCell (by simp <;> omega) _
  have hd40 : decide ((40 : Int) ≤ (n : Int)) = false := decide_eq_false (by omega)
  by_cases hfb : size ≤ frB L G n z
  rotate_left
  · have hen : ¬ enOk L G n z bag size := fun h => hfb h.2.2.2.2.2
    simp only [hk] at hbo
    obtain ⟨fb, hfbe⟩ : ∃ f, f = frB L G n z := ⟨_, rfl⟩
    rw [← hfbe] at hfb hfe
    have hd : decide (fb < size) = true := decide_eq_true (by omega)
    obtain ⟨e1, e2, e3⟩ := en_no (bag := bag) (size := size) hen
    rw [e1, e2, e3]
    clear e1 e2 e3 hen
    clear hk hs hfbe
    go_enter Try.func38, Try.ntmps38
    go_wp2_with (go_at_call 75; refine (hfr.out _ (by repeat (first | exact Below.refl _ _ | refine Below.alloc ?_ (by simp <;> omega) _ | refine Below.setCell ?_ (by simp <;> omega) _ | refine Below.drew ?_))).mono ?_; rintro e w2 ⟨p', c', rfl, hcc, hown, hb2⟩; have hx2 : w2.heap[w.heap.size]? = some (.cells #[.int .i64 L, .int .i64 G, .bool H, .slice p n c] 28 (0, 0)) := (hb2.block w.heap.size (by simp <;> omega)).trans ((heap_old _ _ _ (by simp)).trans (heap_new _ _ _ rfl)); obtain ⟨x0, x1, x2, x3, x4, x5, x6, x7⟩ := cells4 hx2; have hz2 : w.heap.size + 1 + 1 ≤ w2.heap.size := (by have := hb2.size; simpa using this); have HX2 := Lib.hid hx2; have hy2 : w2.heap[w.heap.size + 1]? = some (.cells #[.int .i64 0, .int .i64 0, .bool false, .slice none 0 0] 28 (0, 0)) := (hb2.block (w.heap.size + 1) (by simp <;> omega)).trans (heap_new _ _ _ (by simp)); have HY2 := Lib.hid hy2; clear hy2; have HB2 := Lib.hid hb2; clear hx2 hb2)
    obtain ⟨g', f1, f2⟩ := hown.flat
    obtain ⟨wa, hwa⟩ : ∃ wa, wa = ((((w2.setCell ⟨w.heap.size, 0, none⟩ (.int .i64 L)).setCell ⟨w.heap.size, 1, none⟩ (.int .i64 G)).setCell ⟨w.heap.size, 2, none⟩ (.bool H)).setCell ⟨w.heap.size, 3, none⟩ (.slice p' n c')) := ⟨_, rfl⟩
    have hxa : wa.heap[w.heap.size]? = some (.cells #[.int .i64 L, .int .i64 G, .bool H, .slice p' n c'] 28 (0, 0)) := by rw [hwa]; exact blk_set (blk_set (blk_set (blk_set HX2.out _) _) _) _
    have hya : wa.heap[w.heap.size + 1]? = some (.cells #[.int .i64 0, .int .i64 0, .bool false, .slice none 0 0] 28 (0, 0)) := by rw [hwa]; exact (Below.heap_setCell _ _ _ _ (by simp)).trans ((Below.heap_setCell _ _ _ _ (by simp)).trans ((Below.heap_setCell _ _ _ _ (by simp)).trans ((Below.heap_setCell _ _ _ _ (by simp)).trans HY2.out)))
    have hsa : wa.heap.size = w2.heap.size := by rw [hwa]; simp [World.setCell]
    have f1' := f1.wide (show w.heap.size + 1 + 1 ≤ _ by simp) (Nat.le_refl _)
    have ra : RowNew wa (w.heap.size + 1 + 1) p' (n * 3) z := by rw [hwa]; exact ((((RowNew.of_flat (Nat.le_refl _) (Nat.le_refl _) (h1 := f1') (h2 := f2)).far _ (by simp <;> omega)).far _ (by simp <;> omega)).far _ (by simp <;> omega)).far _ (by simp <;> omega)
    have hba : Below w.heap.size w wa := by rw [hwa]; exact ((((below_via HB2.out (by repeat (first | exact Below.refl _ _ | refine Below.alloc ?_ (by simp <;> omega) _ | refine Below.setCell ?_ (by simp <;> omega) _ | refine Below.drew ?_)) (by simp <;> omega)).setCell (by simp) _).setCell (by simp) _).setCell (by simp) _).setCell (by simp) _
    have HWA := Lib.hid hwa
    clear hwa f1 f1' f2 hown x0 x1 x2 x3 x4 x5 x6 x7 HX2 HY2 HB2
    rw [← HWA.out]
    have XA := Lib.hid hxa
    have YA := Lib.hid hya
    have RA := Lib.hid ra
    have BA := Lib.hid hba
    clear hxa hya ra hba
    obtain ⟨x0, x1, x2, x3, -, -, -, -⟩ := cells4 XA.out
    go_wp2_with fail
    refine (hbo.out wa _ p' c' RA.out).mono ?_
    rintro e w3 ⟨rfl, hb3⟩
    have h3 : Below w.heap.size w w3 := BA.out.trans (hb3.mono (by omega))
    have X3 := Lib.hid ((hb3.block _ (by omega)).trans XA.out)
    have Y3 := Lib.hid ((hb3.block _ (by omega)).trans YA.out)
    have R3 := Lib.hid (RA.out.below hb3)
    have B3 := Lib.hid h3
    have hs3 := hb3.size
    clear h3 hb3 x0 x1 x2 x3 RA BA XA YA HWA
    obtain ⟨x0, x1, x2, x3, x4, x5, x6, x7⟩ := cells4 X3.out
    obtain ⟨z0, z1, z2, z3, z4, z5, z6, z7⟩ := cells4 Y3.out
    go_wp2_with (first | (go_at_call 76; refine (specIn_at HS.out _).mono ?_; rintro e w' ⟨rfl, rfl⟩) | (go_at_call 44; refine (hfe.out w3 _ p' c' R3.out).mono ?_; rintro e w4 ⟨rfl, hb4⟩; have h4 : Below w.heap.size w w4 := B3.out.trans (hb4.mono (by omega)); have X4 := Lib.hid ((hb4.block _ (by omega)).trans X3.out); have Y4 := Lib.hid ((hb4.block _ (by omega)).trans Y3.out); have R4 := Lib.hid (R3.out.below hb4); have B4 := Lib.hid h4; have hs4 := hb4.size; clear h4 hb4 x0 x1 x2 x3 x4 x5 x6 x7 z0 z1 z2 z3 z4 z5 z6 z7; obtain ⟨x0, x1, x2, x3, x4, x5, x6, x7⟩ := cells4 X4.out; obtain ⟨z0, z1, z2, z3, z4, z5, z6, z7⟩ := cells4 Y4.out))
    refine bodyPost_ret (v := .tuple #[.agg #[.int .i64 L, .int .i64 G, .bool H, .slice p' (n) (c')], .bool false]) (by simp [results, Try.results38, go_sem, z0, z1, z2, z3]) rfl ⟨p', c', rfl, hcc, ?_, ?_⟩
    · exact (((((R4.out).far _ (by simp <;> omega)).far _ (by simp <;> omega)).far _ (by simp <;> omega)).far _ (by simp <;> omega)).wide (by omega)
    · exact (((B4.out.setCell (by simp <;> omega) _).setCell (by simp <;> omega) _).setCell (by simp <;> omega) _).setCell (by simp <;> omega) _
  have hyes : ¬ hasB z n bag → enOk L G n z bag size := fun hh => ⟨hk, hbag, hh, hs, hn40, hfb⟩
  have hnot : hasB z n bag → ¬ enOk L G n z bag size := fun hh h => h.2.2.1 hh
  simp only [hk] at hbo
  obtain ⟨fb, hfbe⟩ : ∃ f, f = frB L G n z := ⟨_, rfl⟩
  rw [← hfbe] at hfb hfe
  have hd : decide (fb < size) = false := decide_eq_false (by omega)
  obtain ⟨i0, hi, iz0, iz1, iz2⟩ := info_parts infoItem
  obtain ⟨rb, hrb⟩ : ∃ b, b = enB L G n z bag size := ⟨_, rfl⟩
  obtain ⟨rn, hrn⟩ : ∃ b, b = enN L G n z bag size := ⟨_, rfl⟩
  obtain ⟨rz, hrz⟩ : ∃ b, b = enZ L G n z bag size := ⟨_, rfl⟩
  rw [← hrb, ← hrn, ← hrz]
  have HYES : Hid (¬ hasB z n bag → true = rb ∧ n + 1 = rn ∧ enY n z bag size = rz) := fun hh => by
    obtain ⟨e1, e2, e3⟩ := en_yes (hyes hh)
    exact ⟨by rw [hrb, e1], by rw [hrn, e2], by rw [hrz, e3]⟩
  have HNOT : Hid (hasB z n bag → false = rb ∧ n = rn ∧ z = rz) := fun hh => by
    obtain ⟨e1, e2, e3⟩ := en_no (hnot hh)
    exact ⟨by rw [hrb, e1], by rw [hrn, e2], by rw [hrz, e3]⟩
  clear hk hs hfbe hyes hnot hrb hrn hrz
  go_enter Try.func38, Try.ntmps38
  go_wp2_with (go_at_call 75; refine (hfr.out _ (by repeat (first | exact Below.refl _ _ | refine Below.alloc ?_ (by simp <;> omega) _ | refine Below.setCell ?_ (by simp <;> omega) _ | refine Below.drew ?_))).mono ?_; rintro e w2 ⟨p', c', rfl, hcc, hown, hb2⟩; have hx2 : w2.heap[w.heap.size]? = some (.cells #[.int .i64 L, .int .i64 G, .bool H, .slice p n c] 28 (0, 0)) := (hb2.block w.heap.size (by simp <;> omega)).trans ((heap_old _ _ _ (by simp)).trans (heap_new _ _ _ rfl)); obtain ⟨x0, x1, x2, x3, x4, x5, x6, x7⟩ := cells4 hx2; have hz2 : w.heap.size + 1 + 1 ≤ w2.heap.size := (by have := hb2.size; simpa using this); have HX2 := Lib.hid hx2; have hy2 : w2.heap[w.heap.size + 1]? = some (.cells #[.int .i64 0, .int .i64 0, .bool false, .slice none 0 0] 28 (0, 0)) := (hb2.block (w.heap.size + 1) (by simp <;> omega)).trans (heap_new _ _ _ (by simp)); have HY2 := Lib.hid hy2; clear hy2; have HB2 := Lib.hid hb2; clear hx2 hb2)
  obtain ⟨g', f1, f2⟩ := hown.flat
  obtain ⟨wa, hwa⟩ : ∃ wa, wa = ((((w2.setCell ⟨w.heap.size, 0, none⟩ (.int .i64 L)).setCell ⟨w.heap.size, 1, none⟩ (.int .i64 G)).setCell ⟨w.heap.size, 2, none⟩ (.bool H)).setCell ⟨w.heap.size, 3, none⟩ (.slice p' n c')) := ⟨_, rfl⟩
  have hxa : wa.heap[w.heap.size]? = some (.cells #[.int .i64 L, .int .i64 G, .bool H, .slice p' n c'] 28 (0, 0)) := by rw [hwa]; exact blk_set (blk_set (blk_set (blk_set HX2.out _) _) _) _
  have hya : wa.heap[w.heap.size + 1]? = some (.cells #[.int .i64 0, .int .i64 0, .bool false, .slice none 0 0] 28 (0, 0)) := by rw [hwa]; exact (Below.heap_setCell _ _ _ _ (by simp)).trans ((Below.heap_setCell _ _ _ _ (by simp)).trans ((Below.heap_setCell _ _ _ _ (by simp)).trans ((Below.heap_setCell _ _ _ _ (by simp)).trans HY2.out)))
  have hsa : wa.heap.size = w2.heap.size := by rw [hwa]; simp [World.setCell]
  have f1' := f1.wide (show w.heap.size + 1 + 1 ≤ _ by simp) (Nat.le_refl _)
  have ra : RowNew wa (w.heap.size + 1 + 1) p' (n * 3) z := by rw [hwa]; exact ((((RowNew.of_flat (Nat.le_refl _) (Nat.le_refl _) (h1 := f1') (h2 := f2)).far _ (by simp <;> omega)).far _ (by simp <;> omega)).far _ (by simp <;> omega)).far _ (by simp <;> omega)
  have hba : Below w.heap.size w wa := by rw [hwa]; exact ((((below_via HB2.out (by repeat (first | exact Below.refl _ _ | refine Below.alloc ?_ (by simp <;> omega) _ | refine Below.setCell ?_ (by simp <;> omega) _ | refine Below.drew ?_)) (by simp <;> omega)).setCell (by simp) _).setCell (by simp) _).setCell (by simp) _).setCell (by simp) _
  have HWA := Lib.hid hwa
  clear hwa f1 f1' f2 hown x0 x1 x2 x3 x4 x5 x6 x7 HX2 HY2 HB2
  rw [← HWA.out]
  have XA := Lib.hid hxa
  have YA := Lib.hid hya
  have RA := Lib.hid ra
  have BA := Lib.hid hba
  clear hxa hya ra hba
  obtain ⟨x0, x1, x2, x3, -, -, -, -⟩ := cells4 XA.out
  go_wp2_with fail
  refine (hbo.out wa _ p' c' RA.out).mono ?_
  rintro e w3 ⟨rfl, hb3⟩
  have h3 : Below w.heap.size w w3 := BA.out.trans (hb3.mono (by omega))
  have X3 := Lib.hid ((hb3.block _ (by omega)).trans XA.out)
  have Y3 := Lib.hid ((hb3.block _ (by omega)).trans YA.out)
  have R3 := Lib.hid (RA.out.below hb3)
  have B3 := Lib.hid h3
  have hs3 := hb3.size
  clear h3 hb3 x0 x1 x2 x3 RA BA XA YA HWA
  obtain ⟨x0, x1, x2, x3, x4, x5, x6, x7⟩ := cells4 X3.out
  obtain ⟨z0, z1, z2, z3, z4, z5, z6, z7⟩ := cells4 Y3.out
  go_wp2_with (first | (go_at_call 76; refine (specIn_at HS.out _).mono ?_; rintro e w' ⟨rfl, rfl⟩) | (go_at_call 44; refine (hfe.out w3 _ p' c' R3.out).mono ?_; rintro e w4 ⟨rfl, hb4⟩; have h4 : Below w.heap.size w w4 := B3.out.trans (hb4.mono (by omega)); have X4 := Lib.hid ((hb4.block _ (by omega)).trans X3.out); have Y4 := Lib.hid ((hb4.block _ (by omega)).trans Y3.out); have R4 := Lib.hid (R3.out.below hb4); have B4 := Lib.hid h4; have hs4 := hb4.size; clear h4 hb4 x0 x1 x2 x3 x4 x5 x6 x7 z0 z1 z2 z3 z4 z5 z6 z7; obtain ⟨x0, x1, x2, x3, x4, x5, x6, x7⟩ := cells4 X4.out; obtain ⟨z0, z1, z2, z3, z4, z5, z6, z7⟩ := cells4 Y4.out))
  obtain ⟨g1, o1, r1, r2⟩ := R4.out.row
  have R1 := Lib.hid r1
  clear r1 r2
  go_loop [8] (fun v => ∃ k : Nat, k ≤ n ∧ v = .int .i64 (k : Int) ∧ Hid (∀ j, j < k → z (j * 3) ≠ bag)) (fun v => n - (intOf v).toNat)
  case atStart => exact ⟨0, by omega, rfl, fun j hj => absurd hj (by omega)⟩
  case round =>
    obtain ⟨k, hk, rfl, HN⟩ := hrel
    by_cases hkn : k < n
    · obtain ⟨rfl, hlo1, hg1⟩ := R1.out.1 (by omega)
      obtain ⟨a0, a1, a2⟩ := R1.out.at3 (Below.refl w4.heap.size w4) (Nat.le_refl _) k (by omega)
      have hk0 : (0 : Int) ≤ (k : Int) := by omega
      have hkl : (k : Int) < (n : Int) := by omega
      by_cases hx : z (k * 3) = bag
      · obtain ⟨e1, e2, e3⟩ := HNOT.out ⟨k, hkn, hx⟩
        rw [hx] at a0
        subst e1
        subst e2
        subst e3
        clear hx a1 a2
        go_wp2_with fail
        refine bodyPost_ret (v := .tuple #[.agg #[.int .i64 L, .int .i64 G, .bool H, .slice (some ⟨g1, o1, none⟩) (n) (c')], .bool false]) (by simp [results, Try.results38, go_sem, z0, z1, z2, z3]) rfl ⟨(some ⟨g1, o1, none⟩), c', rfl, hcc, ?_, ?_⟩
        · exact (((((R4.out).far _ (by simp <;> omega)).far _ (by simp <;> omega)).far _ (by simp <;> omega)).far _ (by simp <;> omega)).wide (by omega)
        · exact (((B4.out.setCell (by simp <;> omega) _).setCell (by simp <;> omega) _).setCell (by simp <;> omega) _).setCell (by simp <;> omega) _
      · have HX := Lib.hid hx
        obtain ⟨y0, hy0⟩ : ∃ y, y = z (k * 3) := ⟨_, rfl⟩
        have hne : (y0 == bag) = false := by rw [hy0]; simpa using hx
        rw [← hy0] at a0
        clear hx hy0 a1 a2
        go_wp2_with fail
        go_round
        case rel => exact ⟨k + 1, by omega, by congr 1, fun j hj => by
          by_cases e : j = k
          · subst e; exact HX.out
          · exact HN.out j (by omega)⟩
        case measure => simp only [intOf]; omega
    · obtain rfl : k = n := by omega
      obtain ⟨e1, e2, e3⟩ := HYES.out (fun ⟨j, hj, e⟩ => HN.out j hj e)
      subst e1
      subst e2
      subst e3
      have hwl1 : w.heap.size < w4.heap.size := by omega
      have hwl2 : w4.heap.size ≠ w.heap.size := by omega
      go_wp2_with (first
        | (at_builtin; refine wpList_copy _ rfl (.tmp 52) (.tmp 54) _ rfl (w.heap.size + 1 + 1) 40 i0 _ 3 24 Try.underlying26 hi iz0 iz1 iz2 rfl (by decide) w4.heap.size rfl (heap_new _ _ _ rfl) (by omega) p' k c' rfl _ _ g1 o1 (fun j => .int .i64 (z j)) (R1.out.below ((Below.refl _ _).alloc (Nat.le_refl _) _) (Nat.le_refl _)) (fun _ _ => rfl) (by unfold maxLen; omega) (by omega) ?_; intro p5 c5 w5 hc5 hown5 hgr5; have hx5 := (hgr5.block w.heap.size (by simp; omega) (by simp; omega)).trans ((heap_old _ _ _ (by omega)).trans X4.out); have hy5 := (hgr5.block (w.heap.size + 1) (by simp; omega) (by simp; omega)).trans ((heap_old _ _ _ (by omega)).trans Y4.out); have hs5 : w4.heap.size + 1 ≤ w5.heap.size := (by have := hgr5.size; simpa using this); have B5 : Hid (Below w.heap.size w w5) := (B4.out.alloc (by omega) _).grown hgr5 (by simp; omega) (fun k hk => by injection hk with hk; omega); have HOWN5 := Lib.hid hown5; have HX5 := Lib.hid hx5; have HY5 := Lib.hid hy5; clear hown5 hgr5 hx5 hy5 x0 x1 x2 x3 x4 x5 x6 x7 z0 z1 z2 z3 z4 z5 z6 z7)
        | (at_builtin; refine wpList_append_own _ rfl (.tmp 55) (.tmp 60) _ rfl (w.heap.size + 1 + 1) 40 i0 _ 3 24 Try.underlying26 hi iz0 iz1 iz2 rfl (by decide) _ k _ rfl (HOWN5.out.alloc _) ⟨w5.heap.size, 0, none⟩ 1 1 [.int .i64 bag, .int .i64 size, .int .i64 size] rfl rfl (by intro j u hj; match j, hj with | 0, hj => simp at hj; subst hj; simp [Addr.add] | 1, hj => simp at hj; subst hj; simp [Addr.add] | 2, hj => simp at hj; subst hj; simp [Addr.add]) (by intro u hu; simp at hu; rcases hu with rfl | rfl <;> rfl) (by unfold maxLen; omega) (by omega) (by simp; omega) ?_; intro v6 w6 hown6 hg6 _; obtain ⟨p6, c6, rfl, hc6⟩ := ownsRow_slice hown6; have hx6 := (hg6.block w.heap.size (by simp; omega) (fun e => by have := (HOWN5.out.lt _ e.symm).1; omega)).trans ((heap_old _ _ _ (by omega)).trans HX5.out); have hy6 := (hg6.block (w.heap.size + 1) (by simp; omega) (fun e => by have := (HOWN5.out.lt _ e.symm).1; omega)).trans ((heap_old _ _ _ (by omega)).trans HY5.out); obtain ⟨x0, x1, x2, x3, x4, x5, x6, x7⟩ := cells4 hx6; obtain ⟨z0, z1, z2, z3, z4, z5, z6, z7⟩ := cells4 hy6; have hs6 : w5.heap.size + 1 ≤ w6.heap.size := (by have := hg6.size; simpa using this); have B6 : Hid (Below w.heap.size w w6) := (B5.out.alloc (by omega) _).grown hg6 (by simp; omega) (fun k hk => by have := (HOWN5.out.lt k hk).1; omega); have HOWN6 := Lib.hid hown6; have HX6 := Lib.hid hx6; clear hown6 hg6 hx6 hy6))
      refine bodyPost_ret (v := .tuple #[.agg #[.int .i64 L, .int .i64 G, .bool H, .slice p6 (k + 1) (c6)], .bool true]) (by simp [results, Try.results38, go_sem, z0, z1, z2, z3]) rfl ⟨p6, c6, rfl, hc6, ?_, ?_⟩
      · have hne := own_ne HOWN6.out HX6.out (by decide)
        have hown7 := HOWN6.out.kept (grown_set1 w6 w.heap.size 3 (.slice p6 (k + 1) c6)) (.inr hne)
        obtain ⟨g', h1, h2⟩ := FlatAt.of_own hown7 (f := fun j => .int .i64 (enY k z bag size j)) (fun j hj => enY_cells k z bag size j hj)
        exact (((((RowNew.of_flat (B := w.heap.size + 1 + 1) h1 h2 (by simp) (Nat.le_refl _)).far _ (by simp <;> omega)).far _ (by simp <;> omega)).far _ (by simp <;> omega)).far _ (by simp <;> omega)).wide (by omega)
      · exact ((((B6.out.setCell (by simp) _).setCell (by simp <;> omega) _).setCell (by simp <;> omega) _).setCell (by simp <;> omega) _).setCell (by simp <;> omega) _

end Go.Proofs.Ytobcgidakbbhpab
