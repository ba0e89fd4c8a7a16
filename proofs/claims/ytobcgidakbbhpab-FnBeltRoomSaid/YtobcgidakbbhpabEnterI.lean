/- What the program's Enter returns. -/
import Derived.Test.YtobcgidakbbhpabFree
import Derived.Test.YtobcgidakbbhpabWorkOn
namespace Go.Proofs.Ytobcgidakbbhpab
open Go.RowKit

noncomputable def enOk (L G : Int) (n : Nat) (z : Nat → Int) (bag size : Int) : Prop := okB L G n z = true ∧ 1 ≤ bag ∧ ¬ hasB z n bag ∧ inB 1 60 size = true ∧ n < 40 ∧ size ≤ frB L G n z
open Classical in
noncomputable def enB (L G : Int) (n : Nat) (z : Nat → Int) (bag size : Int) : Bool := decide (enOk L G n z bag size)
noncomputable def enN (L G : Int) (n : Nat) (z : Nat → Int) (bag size : Int) : Nat := if enB L G n z bag size = true then n + 1 else n
def enY (n : Nat) (z : Nat → Int) (bag size : Int) : Nat → Int := fun j => if j < n * 3 then z j else if j = n * 3 then bag else size
noncomputable def enZ (L G : Int) (n : Nat) (z : Nat → Int) (bag size : Int) : Nat → Int := if enB L G n z bag size = true then enY n z bag size else z
theorem en_no {L G : Int} {n : Nat} {z : Nat → Int} {bag size : Int} (h : ¬ enOk L G n z bag size) : enB L G n z bag size = false ∧ enN L G n z bag size = n ∧ enZ L G n z bag size = z := by
  have e : enB L G n z bag size = false := by simp [enB, h]
  exact ⟨e, by unfold enN; rw [if_neg (by rw [e]; decide)], by unfold enZ; rw [if_neg (by rw [e]; decide)]⟩
theorem en_yes {L G : Int} {n : Nat} {z : Nat → Int} {bag size : Int} (h : enOk L G n z bag size) : enB L G n z bag size = true ∧ enN L G n z bag size = n + 1 ∧ enZ L G n z bag size = enY n z bag size := by
  have e : enB L G n z bag size = true := by simp [enB, h]
  exact ⟨e, by unfold enN; rw [if_pos e], by unfold enZ; rw [if_pos e]⟩
theorem en_lt {L G : Int} {n : Nat} {z : Nat → Int} {bag size : Int} (h : enB L G n z bag size = true) : n < 40 := by
  have : enOk L G n z bag size := by simpa [enB] using h
  exact this.2.2.2.2.1
/-- The cells of a row with a new last item. -/
theorem enY_cells (n : Nat) (z : Nat → Int) (bag size : Int) (j : Nat) (hj : j < (n + 1) * 3) : (((List.range (n * 3)).map fun j => Value.int .i64 (z j)) ++ [.int .i64 bag, .int .i64 size, .int .i64 size])[j]? = some (.int .i64 (enY n z bag size j)) := by
  unfold enY
  by_cases h : j < n * 3
  · rw [List.getElem?_append_left (by simpa using h), List.getElem?_map, List.getElem?_range h, if_pos h]; rfl
  · rw [List.getElem?_append_right (by simp; omega), if_neg h]
    simp only [List.length_map, List.length_range]
    by_cases h1 : j = n * 3
    · rw [if_pos h1, show j - n * 3 = 0 by omega]; rfl
    · rw [if_neg h1]
      by_cases h2 : j = n * 3 + 1
      · rw [show j - n * 3 = 1 by omega]; rfl
      · rw [show j - n * 3 = 2 by omega]; rfl

set_option maxRecDepth 100000 in
set_option maxHeartbeats 4000000 in
theorem iEnter_any (n : Nat) (hn : n ≤ 1048576) (z : Nat → Int) (p : Option Addr) (c g o : Nat) (L G : Int) (H : Bool) (bag size : Int) (w : World) (h : FlatAt w 0 w.heap.size p g o (n * 3) (fun j => .int .i64 (z j))) (hc : n ≤ c) :
    Calls Try.prog 36 #[.agg #[.int .i64 L, .int .i64 G, .bool H, .slice p n c], .int .i64 bag, .int .i64 size] w fun e w' => ∃ p' c', e = .returned (.tuple #[.agg #[.int .i64 L, .int .i64 G, .bool H, .slice p' (enN L G n z bag size) c'], .bool (enB L G n z bag size)]) ∧ enN L G n z bag size ≤ c' ∧ RowNew w' w.heap.size p' (enN L G n z bag size * 3) (enZ L G n z bag size) ∧ Below w.heap.size w w' := by
  have hwo := Lib.hid (fun W (hb : Below w.heap.size w W) => workOn_any n hn z p c g o L G H W ((h.below hb (Nat.le_refl _)).wide (Nat.zero_le _) hb.size))
  have hbo := Lib.hid (fun W (hb : Below w.heap.size w W) => iBeltOk_any n (by unfold maxLen; omega) z p c g o L G H W ((h.below hb (Nat.le_refl _)).wide (Nat.zero_le _) hb.size) hc)
  have hca := Lib.hid (fun W (hb : Below w.heap.size w W) (t : Bool) (ht : t = true ↔ hasB z n bag) => carries_any n (by unfold maxLen; omega) z p c g o bag W ((h.below hb (Nat.le_refl _)).wide (Nat.zero_le _) hb.size) t ht)
  have hfr := Lib.hid (fun W (hb : Below w.heap.size w W) => iFree_any n (by unfold maxLen; omega) z p c g o L G H W ((h.below hb (Nat.le_refl _)).wide (Nat.zero_le _) hb.size) hc)
  have c3 := cellsItemI
  clear h
  rcases Bool.eq_false_or_eq_true (okB L G n z) with hk | hk
  rotate_left
  · have hen : ¬ enOk L G n z bag size := fun h => by have := h.1; rw [hk] at this; exact absurd this (by decide)
    simp only [hk] at hbo
    obtain ⟨e1, e2, e3⟩ := en_no (bag := bag) (size := size) hen
    rw [e1, e2, e3]
    clear e1 e2 e3 hen
    clear hk
    go_enter Try.func36, Try.ntmps36
    go_wp2_with (first | (go_at_call 79; refine (hwo.out _ (by repeat (first | exact Below.refl _ _ | refine Below.alloc ?_ (by simp <;> omega) _ | refine Below.setCell ?_ (by simp <;> omega) _ | refine Below.drew ?_))).mono ?_; rintro e w2 ⟨gw, p', c', rfl, hcc, hgw, hwb, hown, hne, hb2⟩; have hw2 := below_via hb2 (B := w.heap.size) (w := w) (by repeat (first | exact Below.refl _ _ | refine Below.alloc ?_ (by simp <;> omega) _ | refine Below.setCell ?_ (by simp <;> omega) _ | refine Below.drew ?_)) (by simp <;> omega); have hx2 := (hb2.block w.heap.size (by simp <;> omega)).trans ((heap_old _ _ _ (by simp)).trans (heap_new _ _ _ rfl)); have hy2 := (hb2.block (w.heap.size + 1) (by simp <;> omega)).trans (heap_new _ _ _ (by simp)); obtain ⟨x0, x1, x2, x3, -, -, -, -⟩ := cells4 hx2; have hz2 : w.heap.size + 1 + 1 ≤ w2.heap.size := (by have := hb2.size; simpa using this); have hl2 : w.heap.size + 1 + 1 ≤ gw := (by simpa using hgw); have HX2 := Lib.hid hx2; have HY2 := Lib.hid hy2; have HWB2 := Lib.hid hwb; have HOWN2 := Lib.hid hown; have HW2 := Lib.hid hw2; have HNE := Lib.hid hne; have hwl := hwb.lt; clear hx2 hy2 hwb hown hb2 hw2 hne) | (go_at_call 28; refine (hbo.out _ HW2.out).mono ?_; rintro e w3 ⟨rfl, hb3⟩; have hw3 : Below w.heap.size w w3 := HW2.out.trans (hb3.mono (by omega)); have hwb3 := HWB2.out.below hb3 (by omega); obtain ⟨y0, y1, y2, y3, y4⟩ := hwb3.cells; have hx3 := (hb3.block w.heap.size (by omega)).trans HX2.out; obtain ⟨x0, x1, x2, x3, -, -, -, -⟩ := cells4 hx3; have hy3 := (hb3.block (w.heap.size + 1) (by omega)).trans HY2.out; obtain ⟨z0, z1, z2, z3, z4, z5, z6, z7⟩ := cells4 hy3; have hz3 := hb3.size; have hown3 := HOWN2.out.below hb3; have HW3 := Lib.hid hw3; have HWB3 := Lib.hid hwb3; have HX3 := Lib.hid hx3; have HY3 := Lib.hid hy3; have HOWN3 := Lib.hid hown3; clear hw3 hwb3 hx3 hy3 hown3 hb3))
    refine bodyPost_ret (v := .tuple #[.agg #[.int .i64 L, .int .i64 G, .bool H, .slice p' n (c')], .bool false]) (by simp [results, Try.results36, go_sem, z0, z1, z2, z3]) rfl ⟨p', c', rfl, hcc, ?_, ?_⟩
    · obtain ⟨g', h1, h2⟩ := HOWN3.out.flat
      exact (((((RowNew.of_flat (B := w.heap.size + 1 + 1) h1 h2 (by simp) (Nat.le_refl _)).far _ (by simp <;> omega)).far _ (by simp <;> omega)).far _ (by simp <;> omega)).far _ (by simp <;> omega)).wide (by omega)
    · exact (((HW3.out.setCell (by simp <;> omega) _).setCell (by simp <;> omega) _).setCell (by simp <;> omega) _).setCell (by simp <;> omega) _
  by_cases hbag : 1 ≤ bag
  rotate_left
  · have hen : ¬ enOk L G n z bag size := fun h => hbag h.2.1
    simp only [hk] at hbo
    have hd : decide (bag < 1) = true := decide_eq_true (by omega)
    obtain ⟨e1, e2, e3⟩ := en_no (bag := bag) (size := size) hen
    rw [e1, e2, e3]
    clear e1 e2 e3 hen
    clear hk
    go_enter Try.func36, Try.ntmps36
    go_wp2_with (first | (go_at_call 79; refine (hwo.out _ (by repeat (first | exact Below.refl _ _ | refine Below.alloc ?_ (by simp <;> omega) _ | refine Below.setCell ?_ (by simp <;> omega) _ | refine Below.drew ?_))).mono ?_; rintro e w2 ⟨gw, p', c', rfl, hcc, hgw, hwb, hown, hne, hb2⟩; have hw2 := below_via hb2 (B := w.heap.size) (w := w) (by repeat (first | exact Below.refl _ _ | refine Below.alloc ?_ (by simp <;> omega) _ | refine Below.setCell ?_ (by simp <;> omega) _ | refine Below.drew ?_)) (by simp <;> omega); have hx2 := (hb2.block w.heap.size (by simp <;> omega)).trans ((heap_old _ _ _ (by simp)).trans (heap_new _ _ _ rfl)); have hy2 := (hb2.block (w.heap.size + 1) (by simp <;> omega)).trans (heap_new _ _ _ (by simp)); obtain ⟨x0, x1, x2, x3, -, -, -, -⟩ := cells4 hx2; have hz2 : w.heap.size + 1 + 1 ≤ w2.heap.size := (by have := hb2.size; simpa using this); have hl2 : w.heap.size + 1 + 1 ≤ gw := (by simpa using hgw); have HX2 := Lib.hid hx2; have HY2 := Lib.hid hy2; have HWB2 := Lib.hid hwb; have HOWN2 := Lib.hid hown; have HW2 := Lib.hid hw2; have HNE := Lib.hid hne; have hwl := hwb.lt; clear hx2 hy2 hwb hown hb2 hw2 hne) | (go_at_call 28; refine (hbo.out _ HW2.out).mono ?_; rintro e w3 ⟨rfl, hb3⟩; have hw3 : Below w.heap.size w w3 := HW2.out.trans (hb3.mono (by omega)); have hwb3 := HWB2.out.below hb3 (by omega); obtain ⟨y0, y1, y2, y3, y4⟩ := hwb3.cells; have hx3 := (hb3.block w.heap.size (by omega)).trans HX2.out; obtain ⟨x0, x1, x2, x3, -, -, -, -⟩ := cells4 hx3; have hy3 := (hb3.block (w.heap.size + 1) (by omega)).trans HY2.out; obtain ⟨z0, z1, z2, z3, z4, z5, z6, z7⟩ := cells4 hy3; have hz3 := hb3.size; have hown3 := HOWN2.out.below hb3; have HW3 := Lib.hid hw3; have HWB3 := Lib.hid hwb3; have HX3 := Lib.hid hx3; have HY3 := Lib.hid hy3; have HOWN3 := Lib.hid hown3; clear hw3 hwb3 hx3 hy3 hown3 hb3))
    refine bodyPost_ret (v := .tuple #[.agg #[.int .i64 L, .int .i64 G, .bool H, .slice p' n (c')], .bool false]) (by simp [results, Try.results36, go_sem, z0, z1, z2, z3]) rfl ⟨p', c', rfl, hcc, ?_, ?_⟩
    · obtain ⟨g', h1, h2⟩ := HOWN3.out.flat
      exact (((((RowNew.of_flat (B := w.heap.size + 1 + 1) h1 h2 (by simp) (Nat.le_refl _)).far _ (by simp <;> omega)).far _ (by simp <;> omega)).far _ (by simp <;> omega)).far _ (by simp <;> omega)).wide (by omega)
    · exact (((HW3.out.setCell (by simp <;> omega) _).setCell (by simp <;> omega) _).setCell (by simp <;> omega) _).setCell (by simp <;> omega) _
  have hdb : decide (bag < 1) = false := decide_eq_false (by omega)
  by_cases hhas : hasB z n bag
  · have hen : ¬ enOk L G n z bag size := fun h => h.2.2.1 hhas
    simp only [hk] at hbo
    have hcb := Lib.hid (fun W hb => hca.out W hb true ⟨fun _ => hhas, fun _ => rfl⟩)
    obtain ⟨e1, e2, e3⟩ := en_no (bag := bag) (size := size) hen
    rw [e1, e2, e3]
    clear e1 e2 e3 hen
    clear hk hhas
    go_enter Try.func36, Try.ntmps36
    go_wp2_with (first | (go_at_call 79; refine (hwo.out _ (by repeat (first | exact Below.refl _ _ | refine Below.alloc ?_ (by simp <;> omega) _ | refine Below.setCell ?_ (by simp <;> omega) _ | refine Below.drew ?_))).mono ?_; rintro e w2 ⟨gw, p', c', rfl, hcc, hgw, hwb, hown, hne, hb2⟩; have hw2 := below_via hb2 (B := w.heap.size) (w := w) (by repeat (first | exact Below.refl _ _ | refine Below.alloc ?_ (by simp <;> omega) _ | refine Below.setCell ?_ (by simp <;> omega) _ | refine Below.drew ?_)) (by simp <;> omega); have hx2 := (hb2.block w.heap.size (by simp <;> omega)).trans ((heap_old _ _ _ (by simp)).trans (heap_new _ _ _ rfl)); have hy2 := (hb2.block (w.heap.size + 1) (by simp <;> omega)).trans (heap_new _ _ _ (by simp)); obtain ⟨x0, x1, x2, x3, -, -, -, -⟩ := cells4 hx2; have hz2 : w.heap.size + 1 + 1 ≤ w2.heap.size := (by have := hb2.size; simpa using this); have hl2 : w.heap.size + 1 + 1 ≤ gw := (by simpa using hgw); have HX2 := Lib.hid hx2; have HY2 := Lib.hid hy2; have HWB2 := Lib.hid hwb; have HOWN2 := Lib.hid hown; have HW2 := Lib.hid hw2; have HNE := Lib.hid hne; have hwl := hwb.lt; clear hx2 hy2 hwb hown hb2 hw2 hne) | (go_at_call 28; refine (hbo.out _ HW2.out).mono ?_; rintro e w3 ⟨rfl, hb3⟩; have hw3 : Below w.heap.size w w3 := HW2.out.trans (hb3.mono (by omega)); have hwb3 := HWB2.out.below hb3 (by omega); obtain ⟨y0, y1, y2, y3, y4⟩ := hwb3.cells; have hx3 := (hb3.block w.heap.size (by omega)).trans HX2.out; obtain ⟨x0, x1, x2, x3, -, -, -, -⟩ := cells4 hx3; have hy3 := (hb3.block (w.heap.size + 1) (by omega)).trans HY2.out; obtain ⟨z0, z1, z2, z3, z4, z5, z6, z7⟩ := cells4 hy3; have hz3 := hb3.size; have hown3 := HOWN2.out.below hb3; have HW3 := Lib.hid hw3; have HWB3 := Lib.hid hwb3; have HX3 := Lib.hid hx3; have HY3 := Lib.hid hy3; have HOWN3 := Lib.hid hown3; clear hw3 hwb3 hx3 hy3 hown3 hb3) | (go_at_call 87; refine (hcb.out _ HW3.out).mono ?_; rintro e w4 ⟨rfl, hb4⟩; have hw4 : Below w.heap.size w w4 := HW3.out.trans (hb4.mono (by omega)); have hwb4 := HWB3.out.below hb4 (by omega); obtain ⟨y0, y1, y2, y3, y4⟩ := hwb4.cells; have hx4 := (hb4.block w.heap.size (by omega)).trans HX3.out; obtain ⟨x0, x1, x2, x3, -, -, -, -⟩ := cells4 hx4; have hy4 := (hb4.block (w.heap.size + 1) (by omega)).trans HY3.out; obtain ⟨z0, z1, z2, z3, z4, z5, z6, z7⟩ := cells4 hy4; have hz4 := hb4.size; have hown4 := HOWN3.out.below hb4; have HW4 := Lib.hid hw4; have HWB4 := Lib.hid hwb4; have HX4 := Lib.hid hx4; have HY4 := Lib.hid hy4; have HOWN4 := Lib.hid hown4; clear hw4 hwb4 hx4 hy4 hown4 hb4))
    refine bodyPost_ret (v := .tuple #[.agg #[.int .i64 L, .int .i64 G, .bool H, .slice p' n (c')], .bool false]) (by simp [results, Try.results36, go_sem, z0, z1, z2, z3]) rfl ⟨p', c', rfl, hcc, ?_, ?_⟩
    · obtain ⟨g', h1, h2⟩ := HOWN4.out.flat
      exact (((((RowNew.of_flat (B := w.heap.size + 1 + 1) h1 h2 (by simp) (Nat.le_refl _)).far _ (by simp <;> omega)).far _ (by simp <;> omega)).far _ (by simp <;> omega)).far _ (by simp <;> omega)).wide (by omega)
    · exact (((HW4.out.setCell (by simp <;> omega) _).setCell (by simp <;> omega) _).setCell (by simp <;> omega) _).setCell (by simp <;> omega) _
  have hcb := Lib.hid (fun W hb => hca.out W hb false ⟨fun h => absurd h (by decide), fun h => absurd h hhas⟩)
  rcases Bool.eq_false_or_eq_true (inB 1 60 size) with hs | hs
  rotate_left
  · have hen : ¬ enOk L G n z bag size := fun h => by have := h.2.2.2.1; rw [hs] at this; exact absurd this (by decide)
    simp only [hk] at hbo
    have HS := Lib.hid hs
    obtain ⟨e1, e2, e3⟩ := en_no (bag := bag) (size := size) hen
    rw [e1, e2, e3]
    clear e1 e2 e3 hen
    clear hk hs hhas
    go_enter Try.func36, Try.ntmps36
    go_wp2_with (first | (go_at_call 79; refine (hwo.out _ (by repeat (first | exact Below.refl _ _ | refine Below.alloc ?_ (by simp <;> omega) _ | refine Below.setCell ?_ (by simp <;> omega) _ | refine Below.drew ?_))).mono ?_; rintro e w2 ⟨gw, p', c', rfl, hcc, hgw, hwb, hown, hne, hb2⟩; have hw2 := below_via hb2 (B := w.heap.size) (w := w) (by repeat (first | exact Below.refl _ _ | refine Below.alloc ?_ (by simp <;> omega) _ | refine Below.setCell ?_ (by simp <;> omega) _ | refine Below.drew ?_)) (by simp <;> omega); have hx2 := (hb2.block w.heap.size (by simp <;> omega)).trans ((heap_old _ _ _ (by simp)).trans (heap_new _ _ _ rfl)); have hy2 := (hb2.block (w.heap.size + 1) (by simp <;> omega)).trans (heap_new _ _ _ (by simp)); obtain ⟨x0, x1, x2, x3, -, -, -, -⟩ := cells4 hx2; have hz2 : w.heap.size + 1 + 1 ≤ w2.heap.size := (by have := hb2.size; simpa using this); have hl2 : w.heap.size + 1 + 1 ≤ gw := (by simpa using hgw); have HX2 := Lib.hid hx2; have HY2 := Lib.hid hy2; have HWB2 := Lib.hid hwb; have HOWN2 := Lib.hid hown; have HW2 := Lib.hid hw2; have HNE := Lib.hid hne; have hwl := hwb.lt; clear hx2 hy2 hwb hown hb2 hw2 hne) | (go_at_call 28; refine (hbo.out _ HW2.out).mono ?_; rintro e w3 ⟨rfl, hb3⟩; have hw3 : Below w.heap.size w w3 := HW2.out.trans (hb3.mono (by omega)); have hwb3 := HWB2.out.below hb3 (by omega); obtain ⟨y0, y1, y2, y3, y4⟩ := hwb3.cells; have hx3 := (hb3.block w.heap.size (by omega)).trans HX2.out; obtain ⟨x0, x1, x2, x3, -, -, -, -⟩ := cells4 hx3; have hy3 := (hb3.block (w.heap.size + 1) (by omega)).trans HY2.out; obtain ⟨z0, z1, z2, z3, z4, z5, z6, z7⟩ := cells4 hy3; have hz3 := hb3.size; have hown3 := HOWN2.out.below hb3; have HW3 := Lib.hid hw3; have HWB3 := Lib.hid hwb3; have HX3 := Lib.hid hx3; have HY3 := Lib.hid hy3; have HOWN3 := Lib.hid hown3; clear hw3 hwb3 hx3 hy3 hown3 hb3) | (go_at_call 87; refine (hcb.out _ HW3.out).mono ?_; rintro e w4 ⟨rfl, hb4⟩; have hw4 : Below w.heap.size w w4 := HW3.out.trans (hb4.mono (by omega)); have hwb4 := HWB3.out.below hb4 (by omega); obtain ⟨y0, y1, y2, y3, y4⟩ := hwb4.cells; have hx4 := (hb4.block w.heap.size (by omega)).trans HX3.out; obtain ⟨x0, x1, x2, x3, -, -, -, -⟩ := cells4 hx4; have hy4 := (hb4.block (w.heap.size + 1) (by omega)).trans HY3.out; obtain ⟨z0, z1, z2, z3, z4, z5, z6, z7⟩ := cells4 hy4; have hz4 := hb4.size; have hown4 := HOWN3.out.below hb4; have HW4 := Lib.hid hw4; have HWB4 := Lib.hid hwb4; have HX4 := Lib.hid hx4; have HY4 := Lib.hid hy4; have HOWN4 := Lib.hid hown4; clear hw4 hwb4 hx4 hy4 hown4 hb4) | (go_at_call 80; refine (within_at HS.out _).mono ?_; rintro e w' ⟨rfl, rfl⟩))
    refine bodyPost_ret (v := .tuple #[.agg #[.int .i64 L, .int .i64 G, .bool H, .slice p' n (c')], .bool false]) (by simp [results, Try.results36, go_sem, z0, z1, z2, z3]) rfl ⟨p', c', rfl, hcc, ?_, ?_⟩
    · obtain ⟨g', h1, h2⟩ := HOWN4.out.flat
      exact (((((RowNew.of_flat (B := w.heap.size + 1 + 1) h1 h2 (by simp) (Nat.le_refl _)).far _ (by simp <;> omega)).far _ (by simp <;> omega)).far _ (by simp <;> omega)).far _ (by simp <;> omega)).wide (by omega)
    · exact (((HW4.out.setCell (by simp <;> omega) _).setCell (by simp <;> omega) _).setCell (by simp <;> omega) _).setCell (by simp <;> omega) _
  have HS := Lib.hid hs
  obtain ⟨s1, s2⟩ := inB_iff.1 hs
  by_cases hn40 : n < 40
  rotate_left
  · have hen : ¬ enOk L G n z bag size := fun h => hn40 h.2.2.2.2.1
    simp only [hk] at hbo
    have hd : decide ((40 : Int) ≤ (n : Int)) = true := decide_eq_true (by omega)
    obtain ⟨e1, e2, e3⟩ := en_no (bag := bag) (size := size) hen
    rw [e1, e2, e3]
    clear e1 e2 e3 hen
    clear hk hs hhas
    go_enter Try.func36, Try.ntmps36
    go_wp2_with (first | (go_at_call 79; refine (hwo.out _ (by repeat (first | exact Below.refl _ _ | refine Below.alloc ?_ (by simp <;> omega) _ | refine Below.setCell ?_ (by simp <;> omega) _ | refine Below.drew ?_))).mono ?_; rintro e w2 ⟨gw, p', c', rfl, hcc, hgw, hwb, hown, hne, hb2⟩; have hw2 := below_via hb2 (B := w.heap.size) (w := w) (by repeat (first | exact Below.refl _ _ | refine Below.alloc ?_ (by simp <;> omega) _ | refine Below.setCell ?_ (by simp <;> omega) _ | refine Below.drew ?_)) (by simp <;> omega); have hx2 := (hb2.block w.heap.size (by simp <;> omega)).trans ((heap_old _ _ _ (by simp)).trans (heap_new _ _ _ rfl)); have hy2 := (hb2.block (w.heap.size + 1) (by simp <;> omega)).trans (heap_new _ _ _ (by simp)); obtain ⟨x0, x1, x2, x3, -, -, -, -⟩ := cells4 hx2; have hz2 : w.heap.size + 1 + 1 ≤ w2.heap.size := (by have := hb2.size; simpa using this); have hl2 : w.heap.size + 1 + 1 ≤ gw := (by simpa using hgw); have HX2 := Lib.hid hx2; have HY2 := Lib.hid hy2; have HWB2 := Lib.hid hwb; have HOWN2 := Lib.hid hown; have HW2 := Lib.hid hw2; have HNE := Lib.hid hne; have hwl := hwb.lt; clear hx2 hy2 hwb hown hb2 hw2 hne) | (go_at_call 28; refine (hbo.out _ HW2.out).mono ?_; rintro e w3 ⟨rfl, hb3⟩; have hw3 : Below w.heap.size w w3 := HW2.out.trans (hb3.mono (by omega)); have hwb3 := HWB2.out.below hb3 (by omega); obtain ⟨y0, y1, y2, y3, y4⟩ := hwb3.cells; have hx3 := (hb3.block w.heap.size (by omega)).trans HX2.out; obtain ⟨x0, x1, x2, x3, -, -, -, -⟩ := cells4 hx3; have hy3 := (hb3.block (w.heap.size + 1) (by omega)).trans HY2.out; obtain ⟨z0, z1, z2, z3, z4, z5, z6, z7⟩ := cells4 hy3; have hz3 := hb3.size; have hown3 := HOWN2.out.below hb3; have HW3 := Lib.hid hw3; have HWB3 := Lib.hid hwb3; have HX3 := Lib.hid hx3; have HY3 := Lib.hid hy3; have HOWN3 := Lib.hid hown3; clear hw3 hwb3 hx3 hy3 hown3 hb3) | (go_at_call 87; refine (hcb.out _ HW3.out).mono ?_; rintro e w4 ⟨rfl, hb4⟩; have hw4 : Below w.heap.size w w4 := HW3.out.trans (hb4.mono (by omega)); have hwb4 := HWB3.out.below hb4 (by omega); obtain ⟨y0, y1, y2, y3, y4⟩ := hwb4.cells; have hx4 := (hb4.block w.heap.size (by omega)).trans HX3.out; obtain ⟨x0, x1, x2, x3, -, -, -, -⟩ := cells4 hx4; have hy4 := (hb4.block (w.heap.size + 1) (by omega)).trans HY3.out; obtain ⟨z0, z1, z2, z3, z4, z5, z6, z7⟩ := cells4 hy4; have hz4 := hb4.size; have hown4 := HOWN3.out.below hb4; have HW4 := Lib.hid hw4; have HWB4 := Lib.hid hwb4; have HX4 := Lib.hid hx4; have HY4 := Lib.hid hy4; have HOWN4 := Lib.hid hown4; clear hw4 hwb4 hx4 hy4 hown4 hb4) | (go_at_call 80; refine (within_at HS.out _).mono ?_; rintro e w' ⟨rfl, rfl⟩))
    refine bodyPost_ret (v := .tuple #[.agg #[.int .i64 L, .int .i64 G, .bool H, .slice p' n (c')], .bool false]) (by simp [results, Try.results36, go_sem, z0, z1, z2, z3]) rfl ⟨p', c', rfl, hcc, ?_, ?_⟩
    · obtain ⟨g', h1, h2⟩ := HOWN4.out.flat
      exact (((((RowNew.of_flat (B := w.heap.size + 1 + 1) h1 h2 (by simp) (Nat.le_refl _)).far _ (by simp <;> omega)).far _ (by simp <;> omega)).far _ (by simp <;> omega)).far _ (by simp <;> omega)).wide (by omega)
    · exact (((HW4.out.setCell (by simp <;> omega) _).setCell (by simp <;> omega) _).setCell (by simp <;> omega) _).setCell (by simp <;> omega) _
  have hd40 : decide ((40 : Int) ≤ (n : Int)) = false := decide_eq_false (by omega)
  by_cases hfb : size ≤ frB L G n z
  rotate_left
  · have hen : ¬ enOk L G n z bag size := fun h => hfb h.2.2.2.2.2
    simp only [hk] at hbo
    obtain ⟨fb, hfbe⟩ : ∃ f, f = frB L G n z := ⟨_, rfl⟩
    rw [← hfbe] at hfb hfr
    have hd : decide (fb < size) = true := decide_eq_true (by omega)
    obtain ⟨e1, e2, e3⟩ := en_no (bag := bag) (size := size) hen
    rw [e1, e2, e3]
    clear e1 e2 e3 hen
    clear hk hs hhas hfbe
    go_enter Try.func36, Try.ntmps36
    go_wp2_with (first | (go_at_call 79; refine (hwo.out _ (by repeat (first | exact Below.refl _ _ | refine Below.alloc ?_ (by simp <;> omega) _ | refine Below.setCell ?_ (by simp <;> omega) _ | refine Below.drew ?_))).mono ?_; rintro e w2 ⟨gw, p', c', rfl, hcc, hgw, hwb, hown, hne, hb2⟩; have hw2 := below_via hb2 (B := w.heap.size) (w := w) (by repeat (first | exact Below.refl _ _ | refine Below.alloc ?_ (by simp <;> omega) _ | refine Below.setCell ?_ (by simp <;> omega) _ | refine Below.drew ?_)) (by simp <;> omega); have hx2 := (hb2.block w.heap.size (by simp <;> omega)).trans ((heap_old _ _ _ (by simp)).trans (heap_new _ _ _ rfl)); have hy2 := (hb2.block (w.heap.size + 1) (by simp <;> omega)).trans (heap_new _ _ _ (by simp)); obtain ⟨x0, x1, x2, x3, -, -, -, -⟩ := cells4 hx2; have hz2 : w.heap.size + 1 + 1 ≤ w2.heap.size := (by have := hb2.size; simpa using this); have hl2 : w.heap.size + 1 + 1 ≤ gw := (by simpa using hgw); have HX2 := Lib.hid hx2; have HY2 := Lib.hid hy2; have HWB2 := Lib.hid hwb; have HOWN2 := Lib.hid hown; have HW2 := Lib.hid hw2; have HNE := Lib.hid hne; have hwl := hwb.lt; clear hx2 hy2 hwb hown hb2 hw2 hne) | (go_at_call 28; refine (hbo.out _ HW2.out).mono ?_; rintro e w3 ⟨rfl, hb3⟩; have hw3 : Below w.heap.size w w3 := HW2.out.trans (hb3.mono (by omega)); have hwb3 := HWB2.out.below hb3 (by omega); obtain ⟨y0, y1, y2, y3, y4⟩ := hwb3.cells; have hx3 := (hb3.block w.heap.size (by omega)).trans HX2.out; obtain ⟨x0, x1, x2, x3, -, -, -, -⟩ := cells4 hx3; have hy3 := (hb3.block (w.heap.size + 1) (by omega)).trans HY2.out; obtain ⟨z0, z1, z2, z3, z4, z5, z6, z7⟩ := cells4 hy3; have hz3 := hb3.size; have hown3 := HOWN2.out.below hb3; have HW3 := Lib.hid hw3; have HWB3 := Lib.hid hwb3; have HX3 := Lib.hid hx3; have HY3 := Lib.hid hy3; have HOWN3 := Lib.hid hown3; clear hw3 hwb3 hx3 hy3 hown3 hb3) | (go_at_call 87; refine (hcb.out _ HW3.out).mono ?_; rintro e w4 ⟨rfl, hb4⟩; have hw4 : Below w.heap.size w w4 := HW3.out.trans (hb4.mono (by omega)); have hwb4 := HWB3.out.below hb4 (by omega); obtain ⟨y0, y1, y2, y3, y4⟩ := hwb4.cells; have hx4 := (hb4.block w.heap.size (by omega)).trans HX3.out; obtain ⟨x0, x1, x2, x3, -, -, -, -⟩ := cells4 hx4; have hy4 := (hb4.block (w.heap.size + 1) (by omega)).trans HY3.out; obtain ⟨z0, z1, z2, z3, z4, z5, z6, z7⟩ := cells4 hy4; have hz4 := hb4.size; have hown4 := HOWN3.out.below hb4; have HW4 := Lib.hid hw4; have HWB4 := Lib.hid hwb4; have HX4 := Lib.hid hx4; have HY4 := Lib.hid hy4; have HOWN4 := Lib.hid hown4; clear hw4 hwb4 hx4 hy4 hown4 hb4) | (go_at_call 80; refine (within_at HS.out _).mono ?_; rintro e w' ⟨rfl, rfl⟩) | (go_at_call 43; refine (hfr.out _ HW4.out).mono ?_; rintro e w5 ⟨rfl, hb5⟩; have hw5 : Below w.heap.size w w5 := HW4.out.trans (hb5.mono (by omega)); have hwb5 := HWB4.out.below hb5 (by omega); obtain ⟨y0, y1, y2, y3, y4⟩ := hwb5.cells; have hx5 := (hb5.block w.heap.size (by omega)).trans HX4.out; obtain ⟨x0, x1, x2, x3, -, -, -, -⟩ := cells4 hx5; have hy5 := (hb5.block (w.heap.size + 1) (by omega)).trans HY4.out; obtain ⟨z0, z1, z2, z3, z4, z5, z6, z7⟩ := cells4 hy5; have hz5 := hb5.size; have hown5 := HOWN4.out.below hb5; have HW5 := Lib.hid hw5; have HWB5 := Lib.hid hwb5; have HX5 := Lib.hid hx5; have HY5 := Lib.hid hy5; have HOWN5 := Lib.hid hown5; clear hw5 hwb5 hx5 hy5 hown5 hb5))
    refine bodyPost_ret (v := .tuple #[.agg #[.int .i64 L, .int .i64 G, .bool H, .slice p' n (c')], .bool false]) (by simp [results, Try.results36, go_sem, z0, z1, z2, z3]) rfl ⟨p', c', rfl, hcc, ?_, ?_⟩
    · obtain ⟨g', h1, h2⟩ := HOWN5.out.flat
      exact (((((RowNew.of_flat (B := w.heap.size + 1 + 1) h1 h2 (by simp) (Nat.le_refl _)).far _ (by simp <;> omega)).far _ (by simp <;> omega)).far _ (by simp <;> omega)).far _ (by simp <;> omega)).wide (by omega)
    · exact (((HW5.out.setCell (by simp <;> omega) _).setCell (by simp <;> omega) _).setCell (by simp <;> omega) _).setCell (by simp <;> omega) _
  have hen : enOk L G n z bag size := ⟨hk, hbag, hhas, hs, hn40, hfb⟩
  simp only [hk] at hbo
  obtain ⟨fb, hfbe⟩ : ∃ f, f = frB L G n z := ⟨_, rfl⟩
  rw [← hfbe] at hfb hfr
  have hd : decide (fb < size) = false := decide_eq_false (by omega)
  obtain ⟨e1, e2, e3⟩ := en_yes hen
  rw [e1, e2, e3]
  obtain ⟨i0, hi, iz0, iz1, iz2⟩ := info_parts infoItem
  clear e1 e2 e3 hen hk hs hhas hfbe
  go_enter Try.func36, Try.ntmps36
  go_wp2_with (first | (go_at_call 79; refine (hwo.out _ (by repeat (first | exact Below.refl _ _ | refine Below.alloc ?_ (by simp <;> omega) _ | refine Below.setCell ?_ (by simp <;> omega) _ | refine Below.drew ?_))).mono ?_; rintro e w2 ⟨gw, p', c', rfl, hcc, hgw, hwb, hown, hne, hb2⟩; have hw2 := below_via hb2 (B := w.heap.size) (w := w) (by repeat (first | exact Below.refl _ _ | refine Below.alloc ?_ (by simp <;> omega) _ | refine Below.setCell ?_ (by simp <;> omega) _ | refine Below.drew ?_)) (by simp <;> omega); have hx2 := (hb2.block w.heap.size (by simp <;> omega)).trans ((heap_old _ _ _ (by simp)).trans (heap_new _ _ _ rfl)); have hy2 := (hb2.block (w.heap.size + 1) (by simp <;> omega)).trans (heap_new _ _ _ (by simp)); obtain ⟨x0, x1, x2, x3, -, -, -, -⟩ := cells4 hx2; have hz2 : w.heap.size + 1 + 1 ≤ w2.heap.size := (by have := hb2.size; simpa using this); have hl2 : w.heap.size + 1 + 1 ≤ gw := (by simpa using hgw); have HX2 := Lib.hid hx2; have HY2 := Lib.hid hy2; have HWB2 := Lib.hid hwb; have HOWN2 := Lib.hid hown; have HW2 := Lib.hid hw2; have HNE := Lib.hid hne; have hwl := hwb.lt; clear hx2 hy2 hwb hown hb2 hw2 hne) | (go_at_call 28; refine (hbo.out _ HW2.out).mono ?_; rintro e w3 ⟨rfl, hb3⟩; have hw3 : Below w.heap.size w w3 := HW2.out.trans (hb3.mono (by omega)); have hwb3 := HWB2.out.below hb3 (by omega); obtain ⟨y0, y1, y2, y3, y4⟩ := hwb3.cells; have hx3 := (hb3.block w.heap.size (by omega)).trans HX2.out; obtain ⟨x0, x1, x2, x3, -, -, -, -⟩ := cells4 hx3; have hy3 := (hb3.block (w.heap.size + 1) (by omega)).trans HY2.out; obtain ⟨z0, z1, z2, z3, z4, z5, z6, z7⟩ := cells4 hy3; have hz3 := hb3.size; have hown3 := HOWN2.out.below hb3; have HW3 := Lib.hid hw3; have HWB3 := Lib.hid hwb3; have HX3 := Lib.hid hx3; have HY3 := Lib.hid hy3; have HOWN3 := Lib.hid hown3; clear hw3 hwb3 hx3 hy3 hown3 hb3) | (go_at_call 87; refine (hcb.out _ HW3.out).mono ?_; rintro e w4 ⟨rfl, hb4⟩; have hw4 : Below w.heap.size w w4 := HW3.out.trans (hb4.mono (by omega)); have hwb4 := HWB3.out.below hb4 (by omega); obtain ⟨y0, y1, y2, y3, y4⟩ := hwb4.cells; have hx4 := (hb4.block w.heap.size (by omega)).trans HX3.out; obtain ⟨x0, x1, x2, x3, -, -, -, -⟩ := cells4 hx4; have hy4 := (hb4.block (w.heap.size + 1) (by omega)).trans HY3.out; obtain ⟨z0, z1, z2, z3, z4, z5, z6, z7⟩ := cells4 hy4; have hz4 := hb4.size; have hown4 := HOWN3.out.below hb4; have HW4 := Lib.hid hw4; have HWB4 := Lib.hid hwb4; have HX4 := Lib.hid hx4; have HY4 := Lib.hid hy4; have HOWN4 := Lib.hid hown4; clear hw4 hwb4 hx4 hy4 hown4 hb4) | (go_at_call 80; refine (within_at HS.out _).mono ?_; rintro e w' ⟨rfl, rfl⟩) | (go_at_call 43; refine (hfr.out _ HW4.out).mono ?_; rintro e w5 ⟨rfl, hb5⟩; have hw5 : Below w.heap.size w w5 := HW4.out.trans (hb5.mono (by omega)); have hwb5 := HWB4.out.below hb5 (by omega); obtain ⟨y0, y1, y2, y3, y4⟩ := hwb5.cells; have hx5 := (hb5.block w.heap.size (by omega)).trans HX4.out; obtain ⟨x0, x1, x2, x3, -, -, -, -⟩ := cells4 hx5; have hy5 := (hb5.block (w.heap.size + 1) (by omega)).trans HY4.out; obtain ⟨z0, z1, z2, z3, z4, z5, z6, z7⟩ := cells4 hy5; have hz5 := hb5.size; have hown5 := HOWN4.out.below hb5; have HW5 := Lib.hid hw5; have HWB5 := Lib.hid hwb5; have HX5 := Lib.hid hx5; have HY5 := Lib.hid hy5; have HOWN5 := Lib.hid hown5; clear hw5 hwb5 hx5 hy5 hown5 hb5) | (at_builtin; have hown5 := HOWN5.out; unfold ItemsOwn at hown5; refine wpList_append_own _ rfl (.tmp 49) (.tmp 54) _ rfl (((w.alloc (.cells #[.int .i64 L, .int .i64 G, .bool H, .slice p n c] 28)).alloc (.cells #[.int .i64 0, .int .i64 0, .bool false, .slice none 0 0] 28)).heap.size) 40 i0 _ 3 24 Try.underlying26 hi iz0 iz1 iz2 rfl (by decide) _ n _ rfl (hown5.alloc _) ⟨w5.heap.size, 0, none⟩ 1 1 [.int .i64 bag, .int .i64 size, .int .i64 size] rfl rfl (by intro j u hj; match j, hj with | 0, hj => simp at hj; subst hj; simp [Addr.add] | 1, hj => simp at hj; subst hj; simp [Addr.add] | 2, hj => simp at hj; subst hj; simp [Addr.add]) (by intro u hu; simp at hu; rcases hu with rfl | rfl <;> rfl) (by unfold maxLen; omega) (by omega) (by simp; omega) ?_; intro v6 w6 hown6 hg6 _; obtain ⟨p6, c6, rfl, hc6⟩ := ownsRow_slice hown6; have hwb6 : WB w6 gw L G H (.slice p' n c') := (hg6.block gw (by simp; omega) (fun e => HNE.out e.symm)).trans ((heap_old _ _ _ (by omega)).trans HWB5.out); obtain ⟨y0, y1, y2, y3, y4⟩ := hwb6.cells; have hy6 := (hg6.block (w.heap.size + 1) (by simp; omega) (fun e => by have := (HOWN5.out.lt _ e.symm).1; simp at this; omega)).trans ((heap_old _ _ _ (by omega)).trans HY5.out); obtain ⟨z0, z1, z2, z3, z4, z5, z6, z7⟩ := cells4 hy6; have HG6 := Lib.hid hg6; have HOWN6 := Lib.hid hown6; have HWB6 := Lib.hid hwb6; clear hg6 hown6 hwb6 hy6))
  have hne6 := own_ne HOWN6.out HWB6.out (by decide)
  refine bodyPost_ret (v := .tuple #[.agg #[.int .i64 L, .int .i64 G, .bool H, .slice p6 (n + 1) c6], .bool true]) (by simp [results, Try.results36, go_sem, z0, z1, z2, z3]) rfl ⟨p6, c6, rfl, hc6, ?_, ?_⟩
  · have hown7 := HOWN6.out.kept (grown_set1 w6 gw 3 (.slice p6 (n + 1) c6)) (.inr hne6)
    obtain ⟨g', h1, h2⟩ := FlatAt.of_own hown7 (f := fun j => .int .i64 (enY n z bag size j)) (fun j hj => enY_cells n z bag size j hj)
    exact (((((RowNew.of_flat (B := w.heap.size + 1 + 1) h1 h2 (by simp) (Nat.le_refl _)).far _ (by simp <;> omega)).far _ (by simp <;> omega)).far _ (by simp <;> omega)).far _ (by simp <;> omega)).wide (by omega)
  · exact ((((((HW5.out.alloc (by omega) _).grown HG6.out (by simp; omega) (fun k hk => by have := (HOWN5.out.lt k hk).1; simp at this; omega)).setCell (by simp; omega) _).setCell (by simp <;> omega) _).setCell (by simp <;> omega) _).setCell (by simp <;> omega) _).setCell (by simp <;> omega) _

end Go.Proofs.Ytobcgidakbbhpab
