/- What Leave returns, the program's and the model's. -/
import Derived.Test.YtlklggkkkbamhaaSBeltOk
import Derived.Test.YtlklggkkkbamhaaMoveI
import Derived.Test.YtlklggkkkbamhaaStepS
namespace Go.Proofs.Ytlklggkkkbamhaa
open Go.RowKit

theorem FlatAt.shift3 {w : World} {lo hh g o m : Nat} {z : Nat → Int} {a : Addr} (h : FlatAt w lo hh (some a) g o ((m + 1) * 3) (fun j => .int .i64 (z j))) : FlatAt w lo hh (some ⟨g, o + 3, none⟩) g (o + 3) (m * 3) (fun j => .int .i64 (shZ z j)) :=
  ⟨fun _ => ⟨rfl, (h.1 (by omega)).2⟩, fun j hj => by have := h.2 (j + 3) (by omega); rw [show o + 3 + j = o + (j + 3) by omega]; exact this⟩
theorem FlatAt.other {w : World} {lo hh : Nat} {p : Option Addr} {g o m : Nat} {f : Nat → Value} (h : FlatAt w lo hh p g o m f) {q : Addr} (u : Value) (hq : 0 < m → q.block ≠ g) : FlatAt (w.setCell q u) lo hh p g o m f :=
  ⟨h.1, fun j hj => (World.cell?_setCell_other w _ _ _ (by intro e; subst e; exact hq (by omega) rfl)).trans (h.2 j hj)⟩

set_option maxRecDepth 100000 in
set_option maxHeartbeats 4000000 in
theorem leave_no (n : Nat) (hn : n ≤ maxLen) (z : Nat → Int) (p : Option Addr) (c g o lo hi : Nat) (L G : Int) (H : Bool) (b : Nat) (w : World) (hb : WB w b L G H (.slice p n c)) (h : FlatAt w lo hi p g o (n * 3) (fun j => .int .i64 (z j))) (hno : H = true ∨ n = 0 ∨ z 1 < L) :
    Calls Try.prog 54 #[.pointer (some ⟨b, 0, none⟩)] w fun e w' => e = .returned (.tuple #[.int .i64 0, .bool false]) ∧ Below w.heap.size w w' := by
  unfold maxLen at hn
  obtain ⟨q0, q1, q2, q3, q4⟩ := hb.cells
  have hblt := hb.lt
  have c3 := cellsItemI
  cases H with
  | true =>
    clear h hno hb
    go_enter Try.func54, Try.ntmps54
    go_wp2_with fail
    go_quiet (fail)
    go_wp2_with fail
    go_ret2
    exact ⟨rfl, below_drewN' (Below.refl _ _) _⟩
  | false =>
    rcases Nat.eq_zero_or_pos n with h0 | h0
    · subst h0
      clear h hno hb
      go_enter Try.func54, Try.ntmps54
      go_wp2_with fail
      go_quiet (fail)
      go_wp2_with fail
      go_ret2
      exact ⟨rfl, below_drewN' (Below.refl _ _) _⟩
    · have hz : z 1 < L := by
        rcases hno with e | e | e
        · cases e
        · omega
        · exact e
      obtain ⟨rfl, -, hg⟩ := h.1 (by omega)
      have a1 : w.cell? ⟨g, o + 1, none⟩ = some (.int .i64 (z 1)) := h.2 1 (by omega)
      obtain ⟨t, ht⟩ : ∃ t, t = z 1 := ⟨_, rfl⟩
      rw [← ht] at a1 hz
      have hd : decide (t < L) = true := decide_eq_true hz
      have hn1 : ((n : Int) == 0) = false := by simp; omega
      have hnN : (n == 0) = false := by simp; omega
      have hpos : (0 : Int) < (n : Int) := by omega
      clear h hno hb ht
      go_enter Try.func54, Try.ntmps54
      go_wp2_with fail
      go_quiet (fail)
      go_wp2_with fail
      go_ret2
      exact ⟨rfl, below_drewN' (Below.refl _ _) _⟩

set_option maxRecDepth 100000 in
set_option maxHeartbeats 4000000 in
theorem leave_yes (m : Nat) (hn : m + 1 ≤ maxLen) (z : Nat → Int) (p : Option Addr) (c g o lo hi : Nat) (L G : Int) (b : Nat) (w : World) (hb : WB w b L G false (.slice p (m + 1) c)) (hc : m + 1 ≤ c) (hcm : c ≤ maxLen) (h : FlatAt w lo hi p g o ((m + 1) * 3) (fun j => .int .i64 (z j))) (hgb : g ≠ b) (hz : L ≤ z 1) :
    Calls Try.prog 54 #[.pointer (some ⟨b, 0, none⟩)] w fun e w' => ∃ p', e = .returned (.tuple #[.int .i64 (z 0), .bool true]) ∧ WB w' b L G false (.slice p' m (c - 1)) ∧ FlatAt w' lo hi p' g (o + 3) (m * 3) (fun j => .int .i64 (shZ z j)) ∧ w.grownBy w' (some b) := by
  unfold maxLen at hn hcm
  obtain ⟨q0, q1, q2, q3, q4⟩ := hb.cells
  have hblt := hb.lt
  have c3 := cellsItemI
  obtain ⟨rfl, -, hg⟩ := h.1 (by omega)
  have a0 : w.cell? ⟨g, o, none⟩ = some (.int .i64 (z 0)) := h.2 0 (by omega)
  have a1 : w.cell? ⟨g, o + 1, none⟩ = some (.int .i64 (z 1)) := h.2 1 (by omega)
  obtain ⟨t, ht⟩ : ∃ t, t = z 1 := ⟨_, rfl⟩
  obtain ⟨u, hu⟩ : ∃ u, u = z 0 := ⟨_, rfl⟩
  rw [← ht] at a1 hz
  rw [← hu] at a0 ⊢
  have hd : decide (t < L) = false := decide_eq_false (by omega)
  have hn1 : (((m + 1 : Nat) : Int) == 0) = false := by simp; omega
  have hn2 : ((m : Int) + 1 == 0) = false := by simp; omega
  have hpos : (0 : Int) < ((m + 1 : Nat) : Int) := by omega
  have h1c : (1 : Int) ≤ (c : Int) := by omega
  have h1n : (1 : Int) ≤ ((m + 1 : Nat) : Int) := by omega
  have h1nN : 1 ≤ m + 1 := by omega
  have HB := Lib.hid hb
  have HF := Lib.hid h
  have HU := Lib.hid hu
  clear h hb ht hu
  by_cases hc1 : c = 1
  · obtain rfl : m = 0 := by omega
    subst hc1
    go_enter Try.func54, Try.ntmps54
    go_wp2_with fail
    go_quiet (fail)
    go_wp2_with fail
    go_ret2
    exact ⟨_, rfl, blk_set (w := w.drewN nq) (o := 3) HB.out _, by rw [Nat.zero_mul]; exact FlatAt.zero _ _ _ _ _ _ _, grown_trans2 (b := w.drewN nq) ⟨rfl, rfl, rfl, Nat.le_refl _, fun _ _ _ => rfl⟩ (grown_set1 _ _ _ _)⟩
  · go_enter Try.func54, Try.ntmps54
    go_wp2_with fail
    go_quiet (fail)
    go_wp2_with fail
    go_ret2
    exact ⟨_, rfl, blk_set (w := w.drewN nq) (o := 3) HB.out _, FlatAt.other (w := w.drewN nq) (FlatAt.shift3 HF.out) _ (fun _ => hgb.symm), grown_trans2 (b := w.drewN nq) ⟨rfl, rfl, rfl, Nat.le_refl _, fun _ _ _ => rfl⟩ (grown_set1 _ _ _ _)⟩

noncomputable def lvOk (L G : Int) (H : Bool) (n : Nat) (z : Nat → Int) : Bool := okB L G n z && !H && decide (0 < n) && decide (L ≤ z 1)
noncomputable def lvN (L G : Int) (H : Bool) (n : Nat) (z : Nat → Int) : Nat := if lvOk L G H n z = true then n - 1 else n
noncomputable def lvZ (L G : Int) (H : Bool) (n : Nat) (z : Nat → Int) : Nat → Int := if lvOk L G H n z = true then shZ z else z
noncomputable def lvB (L G : Int) (H : Bool) (n : Nat) (z : Nat → Int) : Int := if lvOk L G H n z = true then z 0 else 0
theorem lv_yes {L G : Int} {H : Bool} {n : Nat} {z : Nat → Int} (h : lvOk L G H n z = true) : okB L G n z = true ∧ H = false ∧ 0 < n ∧ L ≤ z 1 := by
  unfold lvOk at h
  simp only [Bool.and_eq_true, decide_eq_true_eq, Bool.not_eq_true'] at h
  exact ⟨h.1.1.1, h.1.1.2, h.1.2, h.2⟩
theorem lv_no {L G : Int} {H : Bool} {n : Nat} {z : Nat → Int} (h : lvOk L G H n z = false) (hk : okB L G n z = true) : H = true ∨ n = 0 ∨ z 1 < L := by
  cases H with
  | true => exact .inl rfl
  | false =>
    rcases Nat.eq_zero_or_pos n with h0 | h0
    · exact .inr (.inl h0)
    · refine .inr (.inr ?_)
      unfold lvOk at h
      rw [hk, decide_eq_true h0] at h
      simpa using h

set_option maxRecDepth 100000 in
set_option maxHeartbeats 4000000 in
theorem iLeave_any (n : Nat) (hn : n ≤ 1048576) (z : Nat → Int) (p : Option Addr) (c g o : Nat) (L G : Int) (H : Bool) (w : World) (h : FlatAt w 0 w.heap.size p g o (n * 3) (fun j => .int .i64 (z j))) (hc : n ≤ c) :
    Calls Try.prog 29 #[.agg #[.int .i64 L, .int .i64 G, .bool H, .slice p n c]] w fun e w' => ∃ p' c', e = .returned (.tuple #[.agg #[.int .i64 L, .int .i64 G, .bool H, .slice p' (lvN L G H n z) c'], .int .i64 (lvB L G H n z), .bool (lvOk L G H n z)]) ∧ lvN L G H n z ≤ c' ∧ RowNew w' w.heap.size p' (lvN L G H n z * 3) (lvZ L G H n z) ∧ Below w.heap.size w w' := by
  have hwo := Lib.hid (fun W (hb : Below w.heap.size w W) => workOn_any n hn z p c g o L G H W ((h.below hb (Nat.le_refl _)).wide (Nat.zero_le _) hb.size))
  have hbo := Lib.hid (fun W (hb : Below w.heap.size w W) => iBeltOk_any n (by unfold maxLen; omega) z p c g o L G H W ((h.below hb (Nat.le_refl _)).wide (Nat.zero_le _) hb.size) hc)
  clear h
  cases hl : lvOk L G H n z with
  | false =>
    have e1 : lvN L G H n z = n := by unfold lvN; rw [if_neg (by rw [hl]; decide)]
    have e2 : lvZ L G H n z = z := by unfold lvZ; rw [if_neg (by rw [hl]; decide)]
    have e3 : lvB L G H n z = 0 := by unfold lvB; rw [if_neg (by rw [hl]; decide)]
    rw [e1, e2, e3]
    clear e1 e2 e3
    rcases Bool.eq_false_or_eq_true (okB L G n z) with hk | hk
    · have hno := Lib.hid (fun (W : World) (gw : Nat) (p' : Option Addr) (c' g' lo hi : Nat) (hb : WB W gw L G H (.slice p' n c')) (hf : FlatAt W lo hi p' g' 0 (n * 3) (fun j => .int .i64 (z j))) => leave_no n (by unfold maxLen; omega) z p' c' g' 0 lo hi L G H gw W hb hf (lv_no hl hk))
      simp only [hk] at hbo
      clear hk hl
      go_enter Try.func29, Try.ntmps29
      go_wp2_with (first
        | (go_at_call 34; refine (hwo.out _ (by repeat (first | exact Below.refl _ _ | refine Below.alloc ?_ (by simp <;> omega) _))).mono ?_; rintro e w2 ⟨gw, p', c', rfl, hcc, hgw, hwb, hown, hne, hb2⟩; have hw2 := below_via hb2 (B := w.heap.size) (w := w) (by repeat (first | exact Below.refl _ _ | refine Below.alloc ?_ (by simp <;> omega) _)) (by simp <;> omega); have hx2 := (hb2.block w.heap.size (by simp <;> omega)).trans ((heap_old _ _ _ (by simp)).trans (heap_new _ _ _ rfl)); have hy2 := (hb2.block (w.heap.size + 1) (by simp <;> omega)).trans (heap_new _ _ _ (by simp)); obtain ⟨x0, x1, x2, x3, -, -, -, -⟩ := cells4 hx2; obtain ⟨v0, v1, v2, v3, -⟩ := hwb.cells; have hz2 : w.heap.size + 1 + 1 ≤ w2.heap.size := (by have := hb2.size; simpa using this); have HX2 := Lib.hid hx2; have HY2 := Lib.hid hy2; have HWB := Lib.hid hwb; have HOWN := Lib.hid hown; have HW2 := Lib.hid hw2; have HNE := Lib.hid hne; have hwl := hwb.lt; clear hx2 hy2 hwb hown hb2 hw2 hne)
        | (go_at_call 13; refine (hbo.out _ HW2.out).mono ?_; rintro e w3 ⟨rfl, hb3⟩; have hw3 : Below w.heap.size w w3 := HW2.out.trans (hb3.mono (by omega)); have hwb3 := HWB.out.below hb3 hwl; obtain ⟨y0, y1, y2, y3, -⟩ := hwb3.cells; have hy3 := (hb3.block (w.heap.size + 1) (by omega)).trans HY2.out; obtain ⟨z0, z1, z2, z3, z4, z5, z6, z7⟩ := cells4 hy3; have hz3 := hb3.size; have hown3 := HOWN.out.below hb3; clear x0 x1 x2 x3 v0 v1 v2 v3))
      obtain ⟨g', f1, f2⟩ := hown3.flat
      have hlv := Lib.hid (hno.out w3 gw p' c' g' _ _ hwb3 f1)
      have F1 := Lib.hid f1
      have F2 := Lib.hid f2
      have HW3 := Lib.hid hw3
      have HY3 := Lib.hid hy3
      have HWB3 := Lib.hid hwb3
      have hl2 : w.heap.size + 1 + 1 ≤ gw := by simpa using hgw
      clear f1 f2 hno hown3 hwb3 hw3 hy3 hb3 y0 y1 y2 y3 z0 z1 z2 z3 z4 z5 z6 z7
      go_wp2_with (go_at_call 54; refine hlv.out.mono ?_; rintro e w4 ⟨rfl, hb4⟩; have hwb4 := HWB3.out.below hb4 (by omega); obtain ⟨y0, y1, y2, y3, -⟩ := hwb4.cells; have hy4 := (hb4.block (w.heap.size + 1) (by omega)).trans HY3.out; obtain ⟨z0, z1, z2, z3, z4, z5, z6, z7⟩ := cells4 hy4; have hz4 := hb4.size; have HB4 := Lib.hid hb4; clear hwb4 hy4 hb4)
      refine bodyPost_ret (v := .tuple #[.agg #[.int .i64 L, .int .i64 G, .bool H, .slice p' n c'], .int .i64 0, .bool false]) (by simp [results, Try.results29, go_sem, z0, z1, z2, z3]) rfl ⟨p', c', rfl, hcc, ?_, ?_⟩
      · exact (((((RowNew.of_flat (B := w.heap.size + 1 + 1) (F1.out.below HB4.out (Nat.le_refl _)) (F2.out.below HB4.out (fun hm => (F1.out.1 hm).2.2)) (by simp) hz4).far _ (by simp <;> omega)).far _ (by simp <;> omega)).far _ (by simp <;> omega)).far _ (by simp <;> omega)).wide (by omega)
      · exact ((((HW3.out.trans (HB4.out.mono (by omega))).setCell (by simp <;> omega) _).setCell (by simp <;> omega) _).setCell (by simp <;> omega) _).setCell (by simp <;> omega) _
    · simp only [hk] at hbo
      clear hk hl
      go_enter Try.func29, Try.ntmps29
      go_wp2_with (first
        | (go_at_call 34; refine (hwo.out _ (by repeat (first | exact Below.refl _ _ | refine Below.alloc ?_ (by simp <;> omega) _))).mono ?_; rintro e w2 ⟨gw, p', c', rfl, hcc, hgw, hwb, hown, hne, hb2⟩; have hw2 := below_via hb2 (B := w.heap.size) (w := w) (by repeat (first | exact Below.refl _ _ | refine Below.alloc ?_ (by simp <;> omega) _)) (by simp <;> omega); have hx2 := (hb2.block w.heap.size (by simp <;> omega)).trans ((heap_old _ _ _ (by simp)).trans (heap_new _ _ _ rfl)); have hy2 := (hb2.block (w.heap.size + 1) (by simp <;> omega)).trans (heap_new _ _ _ (by simp)); obtain ⟨x0, x1, x2, x3, -, -, -, -⟩ := cells4 hx2; obtain ⟨v0, v1, v2, v3, -⟩ := hwb.cells; have hz2 : w.heap.size + 1 + 1 ≤ w2.heap.size := (by have := hb2.size; simpa using this); have HX2 := Lib.hid hx2; have HY2 := Lib.hid hy2; have HWB := Lib.hid hwb; have HOWN := Lib.hid hown; have HW2 := Lib.hid hw2; have HNE := Lib.hid hne; have hwl := hwb.lt; clear hx2 hy2 hwb hown hb2 hw2 hne)
        | (go_at_call 13; refine (hbo.out _ HW2.out).mono ?_; rintro e w3 ⟨rfl, hb3⟩; have hw3 : Below w.heap.size w w3 := HW2.out.trans (hb3.mono (by omega)); have hwb3 := HWB.out.below hb3 hwl; obtain ⟨y0, y1, y2, y3, -⟩ := hwb3.cells; have hy3 := (hb3.block (w.heap.size + 1) (by omega)).trans HY2.out; obtain ⟨z0, z1, z2, z3, z4, z5, z6, z7⟩ := cells4 hy3; have hz3 := hb3.size; have hown3 := HOWN.out.below hb3; clear x0 x1 x2 x3 v0 v1 v2 v3))
      refine bodyPost_ret (v := .tuple #[.agg #[.int .i64 L, .int .i64 G, .bool H, .slice p' n c'], .int .i64 0, .bool false]) (by simp [results, Try.results29, go_sem, z0, z1, z2, z3]) rfl ⟨p', c', rfl, hcc, ?_, ?_⟩
      · obtain ⟨g', h1, h2⟩ := hown3.flat
        exact (((((RowNew.of_flat (B := w.heap.size + 1 + 1) h1 h2 (by simp) (Nat.le_refl _)).far _ (by simp <;> omega)).far _ (by simp <;> omega)).far _ (by simp <;> omega)).far _ (by simp <;> omega)).wide (by omega)
      · exact (((hw3.setCell (by simp <;> omega) _).setCell (by simp <;> omega) _).setCell (by simp <;> omega) _).setCell (by simp <;> omega) _
  | true =>
    obtain ⟨hk, rfl, h0, hz⟩ := lv_yes hl
    obtain ⟨m, rfl⟩ : ∃ m, n = m + 1 := ⟨n - 1, by omega⟩
    have e1 : lvN L G false (m + 1) z = m := by unfold lvN; rw [if_pos hl]; omega
    have e2 : lvZ L G false (m + 1) z = shZ z := by unfold lvZ; rw [if_pos hl]
    have e3 : lvB L G false (m + 1) z = z 0 := by unfold lvB; rw [if_pos hl]
    rw [e1, e2, e3]
    have hye := Lib.hid (fun (W : World) (gw : Nat) (p' : Option Addr) (c' g' lo hi : Nat) (hb : WB W gw L G false (.slice p' (m + 1) c')) (hcc : m + 1 ≤ c') (hcm : c' ≤ maxLen) (hf : FlatAt W lo hi p' g' 0 ((m + 1) * 3) (fun j => .int .i64 (z j))) (hgb : g' ≠ gw) => leave_yes m (by unfold maxLen; omega) z p' c' g' 0 lo hi L G gw W hb hcc hcm hf hgb hz)
    simp only [hk] at hbo
    clear hk hl e1 e2 e3
    obtain ⟨u, hu⟩ : ∃ u, u = z 0 := ⟨_, rfl⟩
    rw [← hu] at hye ⊢
    clear hu
    go_enter Try.func29, Try.ntmps29
    go_wp2_with (first
      | (go_at_call 34; refine (hwo.out _ (by repeat (first | exact Below.refl _ _ | refine Below.alloc ?_ (by simp <;> omega) _))).mono ?_; rintro e w2 ⟨gw, p', c', rfl, hcc, hgw, hwb, hown, hne, hb2⟩; have hw2 := below_via hb2 (B := w.heap.size) (w := w) (by repeat (first | exact Below.refl _ _ | refine Below.alloc ?_ (by simp <;> omega) _)) (by simp <;> omega); have hx2 := (hb2.block w.heap.size (by simp <;> omega)).trans ((heap_old _ _ _ (by simp)).trans (heap_new _ _ _ rfl)); have hy2 := (hb2.block (w.heap.size + 1) (by simp <;> omega)).trans (heap_new _ _ _ (by simp)); obtain ⟨x0, x1, x2, x3, -, -, -, -⟩ := cells4 hx2; obtain ⟨v0, v1, v2, v3, -⟩ := hwb.cells; have hz2 : w.heap.size + 1 + 1 ≤ w2.heap.size := (by have := hb2.size; simpa using this); have HX2 := Lib.hid hx2; have HY2 := Lib.hid hy2; have HWB := Lib.hid hwb; have HOWN := Lib.hid hown; have HW2 := Lib.hid hw2; have HNE := Lib.hid hne; have hwl := hwb.lt; clear hx2 hy2 hwb hown hb2 hw2 hne)
      | (go_at_call 13; refine (hbo.out _ HW2.out).mono ?_; rintro e w3 ⟨rfl, hb3⟩; have hw3 : Below w.heap.size w w3 := HW2.out.trans (hb3.mono (by omega)); have hwb3 := HWB.out.below hb3 hwl; obtain ⟨y0, y1, y2, y3, -⟩ := hwb3.cells; have hy3 := (hb3.block (w.heap.size + 1) (by omega)).trans HY2.out; obtain ⟨z0, z1, z2, z3, z4, z5, z6, z7⟩ := cells4 hy3; have hz3 := hb3.size; have hown3 := HOWN.out.below hb3; clear x0 x1 x2 x3 v0 v1 v2 v3))
    obtain ⟨g', f1, f2⟩ := hown3.flat
    have hgb : g' ≠ gw := fun e => by
      obtain ⟨e1, -, -⟩ := f1.1 (by omega)
      have := HNE.out
      rw [e1, e] at this
      exact this rfl
    have hcm : c' ≤ maxLen := hown3.capMax
    have hlv := Lib.hid (hye.out w3 gw p' c' g' _ _ hwb3 hcc hcm f1 hgb)
    have F1 := Lib.hid f1
    have F2 := Lib.hid f2
    have HW3 := Lib.hid hw3
    have HY3 := Lib.hid hy3
    have HGB := Lib.hid hgb
    have hl2 : w.heap.size + 1 + 1 ≤ gw := by simpa using hgw
    clear f1 f2 hye hown3 hwb3 hw3 hy3 hb3 hgb y0 y1 y2 y3 z0 z1 z2 z3 z4 z5 z6 z7
    go_wp2_with (go_at_call 54; refine hlv.out.mono ?_; rintro e w4 ⟨p4, rfl, hwb4, hf4, hg4⟩; obtain ⟨y0, y1, y2, y3, -⟩ := hwb4.cells; have hy4 := (hg4.block (w.heap.size + 1) (by omega) (by intro e; injection e with e; omega)).trans HY3.out; obtain ⟨z0, z1, z2, z3, z4, z5, z6, z7⟩ := cells4 hy4; have hz4 := hg4.size; have HG4 := Lib.hid hg4; have HF4 := Lib.hid hf4; clear hwb4 hy4 hg4 hf4)
    refine bodyPost_ret (v := .tuple #[.agg #[.int .i64 L, .int .i64 G, .bool false, .slice p4 m (c' - 1)], .int .i64 u, .bool true]) (by simp [results, Try.results29, go_sem, z0, z1, z2, z3]) rfl ⟨p4, c' - 1, rfl, by omega, ?_, ?_⟩
    · exact (((((RowNew.of_flat (B := w.heap.size + 1 + 1) HF4.out (fun j hj => (FreeAt.grown F2.out HG4.out (fun _ => ⟨Nat.lt_of_lt_of_le (F1.out.1 (by omega)).2.2 (Nat.le_refl _), by intro e; injection e with e; exact HGB.out e⟩)) (j + 3) (by omega) |> (by rw [show 0 + 3 + j = 0 + (j + 3) by omega]; exact ·)) (by simp) hz4).far _ (by simp <;> omega)).far _ (by simp <;> omega)).far _ (by simp <;> omega)).far _ (by simp <;> omega)).wide (by omega)
    · exact ((((HW3.out.grown HG4.out HW3.out.size (by intro k hk; injection hk with hk; omega)).setCell (by simp <;> omega) _).setCell (by simp <;> omega) _).setCell (by simp <;> omega) _).setCell (by simp <;> omega) _

end Go.Proofs.Ytlklggkkkbamhaa
