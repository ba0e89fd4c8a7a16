/- What the program's Move returns. -/
import Derived.Test.YtlklggkkkbamhaaStepI
import Derived.Test.YtlklggkkkbamhaaBeltOkI
namespace Go.Proofs.Ytlklggkkkbamhaa
open Go.RowKit

/-- The row that Move leaves. -/
noncomputable def mvR (L G : Int) (n : Nat) (s : Int) (z : Nat → Int) : Nat → Int := if okB L G n z = true ∧ inB 0 2000 s = true then mvZ L G s.toNat z else z

set_option maxRecDepth 100000 in
set_option maxHeartbeats 4000000 in
theorem iMove_any (n : Nat) (hn : n ≤ 1048576) (z : Nat → Int) (p : Option Addr) (c g o : Nat) (L G : Int) (H : Bool) (s : Int) (w : World) (h : FlatAt w 0 w.heap.size p g o (n * 3) (fun j => .int .i64 (z j))) (hc : n ≤ c) :
    Calls Try.prog 24 #[.agg #[.int .i64 L, .int .i64 G, .bool H, .slice p n c], .int .i64 s] w fun e w' => ∃ p' c', e = .returned (.agg #[.int .i64 L, .int .i64 G, .bool H, .slice p' n c']) ∧ n ≤ c' ∧ RowNew w' w.heap.size p' (n * 3) (mvR L G n s z) ∧ Below w.heap.size w w' := by
  have hwo := Lib.hid (fun W (hb : Below w.heap.size w W) => workOn_any n hn z p c g o L G H W ((h.below hb (Nat.le_refl _)).wide (Nat.zero_le _) hb.size))
  have hbo := Lib.hid (fun W (hb : Below w.heap.size w W) => iBeltOk_any n (by unfold maxLen; omega) z p c g o L G H W ((h.below hb (Nat.le_refl _)).wide (Nat.zero_le _) hb.size) hc)
  clear h
  rcases Bool.eq_false_or_eq_true (okB L G n z) with hk | hk
  · rcases Bool.eq_false_or_eq_true (inB 0 2000 s) with hs | hs
    · have HM : Hid (mvR L G n s z = mvZ L G s.toNat z) := by unfold mvR; exact if_pos ⟨hk, hs⟩
      have HP : Hid (OkP L G n z) := okB_iff.1 hk
      obtain ⟨s0, s1⟩ := inB_iff.1 hs
      simp only [hk] at hbo
      have HS := Lib.hid hs
      clear hs hk
      go_enter Try.func24, Try.ntmps24
      go_wp2_with (first
        | (go_at_call 34; refine (hwo.out _ (by repeat (first | exact Below.refl _ _ | refine Below.alloc ?_ (by simp <;> omega) _))).mono ?_; rintro e w2 ⟨gw, p', c', rfl, hcc, hgw, hwb, hown, hne, hb2⟩; have hw2 := below_via hb2 (B := w.heap.size) (w := w) (by repeat (first | exact Below.refl _ _ | refine Below.alloc ?_ (by simp <;> omega) _)) (by simp <;> omega); have hx2 := (hb2.block w.heap.size (by simp <;> omega)).trans ((heap_old _ _ _ (by simp)).trans (heap_new _ _ _ rfl)); have hy2 := (hb2.block (w.heap.size + 1) (by simp <;> omega)).trans (heap_new _ _ _ (by simp)); obtain ⟨x0, x1, x2, x3, -, -, -, -⟩ := cells4 hx2; obtain ⟨v0, v1, v2, v3, -⟩ := hwb.cells; have hz2 : w.heap.size + 1 + 1 ≤ w2.heap.size := (by have := hb2.size; simpa using this); have HX2 := Lib.hid hx2; have HY2 := Lib.hid hy2; have HWB := Lib.hid hwb; have HOWN := Lib.hid hown; have HW2 := Lib.hid hw2; have HNE := Lib.hid hne; have hwl := hwb.lt; clear hx2 hy2 hwb hown hb2 hw2 hne)
        | (go_at_call 13; refine (hbo.out _ HW2.out).mono ?_; rintro e w3 ⟨rfl, hb3⟩; have hw3 : Below w.heap.size w w3 := HW2.out.trans (hb3.mono (by omega)); have hwb3 := HWB.out.below hb3 hwl; obtain ⟨y0, y1, y2, y3, -⟩ := hwb3.cells; have hy3 := (hb3.block (w.heap.size + 1) (by omega)).trans HY2.out; obtain ⟨z0, z1, z2, z3, z4, z5, z6, z7⟩ := cells4 hy3; have hz3 := hb3.size; have hown3 := HOWN.out.below hb3; clear x0 x1 x2 x3 v0 v1 v2 v3)
        | (go_at_call 35; refine (within_at HS.out _).mono ?_; rintro e w4 ⟨rfl, rfl⟩))
      obtain ⟨g', f1, f2⟩ := hown3.flat
      have hgw' : 0 < n → g' ≠ gw := fun h0 e => by
        obtain ⟨e1, -, -⟩ := f1.1 (by omega)
        have := HNE.out
        rw [e1, e] at this
        exact this rfl
      have hl2 : w.heap.size + 1 + 1 ≤ gw := by simpa using hgw
      have f1' := f1.wide (show w.heap.size + 1 + 1 ≤ _ by simp) (Nat.le_refl _)
      have F1 := Lib.hid f1'
      have F2 := Lib.hid f2
      have HG := Lib.hid hgw'
      have HW3 := Lib.hid hw3
      have HY3 := Lib.hid hy3
      have HB3 := Lib.hid hwb3
      have hgl3 : gw < w3.heap.size := by omega
      clear f1 f1' f2 hgw' hown3 hw3 hy3 hwb3 hb3 z0 z1 z2 z3 z4 z5 z6 z7 y0 y1 y2 y3
      go_loopw [20] (fun v wr => ∃ k : Nat, (k : Int) ≤ s ∧ v = .int .i64 (k : Int) ∧ FlatAt wr (w.heap.size + 1 + 1) w3.heap.size p' g' 0 (n * 3) (fun j => .int .i64 (mvZ L G k z j)) ∧ FreeAt wr g' 0 (n * 3) ∧ WB wr gw L G H (.slice p' n c') ∧ wr.heap[w.heap.size + 1]? = some (.cells #[.int .i64 0, .int .i64 0, .bool false, .slice none 0 0] 24 (0, 0)) ∧ w3.heap.size ≤ wr.heap.size ∧ Below w.heap.size w wr) (fun v _ => s.toNat - (intOf v).toNat)
      case atStart => exact ⟨0, by omega, rfl, F1.out, F2.out, HB3.out, HY3.out, Nat.le_refl _, HW3.out⟩
      case round =>
        obtain ⟨k, hk, rfl, h1, h2, h3, h4, h5, h6⟩ := hrel
        by_cases hks : (k : Int) < s
        · have hst := Lib.hid (step_touch n (mvZ L G k z) p' c' g' 0 (w.heap.size + 1 + 1) w3.heap.size L G H gw wr (HP.out.move k) h3 h1 h2 h5 HG.out)
          have H4 := Lib.hid h4
          have H6 := Lib.hid h6
          have hk0 : (0 : Int) ≤ (k : Int) := by omega
          have h4s : w.heap.size + 1 < wr.heap.size := by omega
          clear h1 h2 h3 h4 h6
          go_wp2_with (go_at_call 50; refine hst.out.mono ?_; rintro e w4 ⟨rfl, i1, i2, i3, i4⟩; have I1 := Lib.hid i1; have I2 := Lib.hid i2; have I3 := Lib.hid i3; have I4 := Lib.hid i4; clear i1 i2 i3 i4)
          go_roundw
          case rel => exact ⟨k + 1, by omega, by congr 1, I1.out, I2.out, I3.out, (I4.out.block _ h4s (.inl (by omega))).trans H4.out, Nat.le_trans h5 I4.out.size, H6.out.trans (I4.out.below (by omega) (by omega))⟩
          case measure => simp only [intOf]; omega
        · obtain rfl : s = (k : Int) := by omega
          obtain ⟨y0, y1, y2, y3, -⟩ := h3.cells
          obtain ⟨z0, z1, z2, z3, z4, z5, z6, z7⟩ := cells4 h4
          have H1 := Lib.hid h1
          have H2 := Lib.hid h2
          have H6 := Lib.hid h6
          clear h1 h2 h3 h4 h6
          go_wp2_with fail
          refine bodyPost_ret (v := .agg #[.int .i64 L, .int .i64 G, .bool H, .slice p' n c']) (by simp [results, Try.results24, go_sem, z0, z1, z2, z3]) rfl ⟨p', c', rfl, hcc, ?_, ?_⟩
          · rw [HM.out, Int.toNat_natCast]
            exact (((((RowNew.of_flat (B := w.heap.size + 1 + 1) H1.out H2.out (by simp) h5).far _ (by simp <;> omega)).far _ (by simp <;> omega)).far _ (by simp <;> omega)).far _ (by simp <;> omega)).wide (by omega)
          · exact (((H6.out.setCell (by simp <;> omega) _).setCell (by simp <;> omega) _).setCell (by simp <;> omega) _).setCell (by simp <;> omega) _
    · have HM : Hid (mvR L G n s z = z) := by unfold mvR; exact if_neg (fun e => by rw [hs] at e; exact absurd e.2 (by decide))
      simp only [hk] at hbo
      have HS := Lib.hid hs
      clear hs hk
      go_enter Try.func24, Try.ntmps24
      go_wp2_with (first
        | (go_at_call 34; refine (hwo.out _ (by repeat (first | exact Below.refl _ _ | refine Below.alloc ?_ (by simp <;> omega) _))).mono ?_; rintro e w2 ⟨gw, p', c', rfl, hcc, hgw, hwb, hown, hne, hb2⟩; have hw2 := below_via hb2 (B := w.heap.size) (w := w) (by repeat (first | exact Below.refl _ _ | refine Below.alloc ?_ (by simp <;> omega) _)) (by simp <;> omega); have hx2 := (hb2.block w.heap.size (by simp <;> omega)).trans ((heap_old _ _ _ (by simp)).trans (heap_new _ _ _ rfl)); have hy2 := (hb2.block (w.heap.size + 1) (by simp <;> omega)).trans (heap_new _ _ _ (by simp)); obtain ⟨x0, x1, x2, x3, -, -, -, -⟩ := cells4 hx2; obtain ⟨v0, v1, v2, v3, -⟩ := hwb.cells; have hz2 : w.heap.size + 1 + 1 ≤ w2.heap.size := (by have := hb2.size; simpa using this); have HX2 := Lib.hid hx2; have HY2 := Lib.hid hy2; have HWB := Lib.hid hwb; have HOWN := Lib.hid hown; have HW2 := Lib.hid hw2; have HNE := Lib.hid hne; have hwl := hwb.lt; clear hx2 hy2 hwb hown hb2 hw2 hne)
        | (go_at_call 13; refine (hbo.out _ HW2.out).mono ?_; rintro e w3 ⟨rfl, hb3⟩; have hw3 : Below w.heap.size w w3 := HW2.out.trans (hb3.mono (by omega)); have hwb3 := HWB.out.below hb3 hwl; obtain ⟨y0, y1, y2, y3, -⟩ := hwb3.cells; have hy3 := (hb3.block (w.heap.size + 1) (by omega)).trans HY2.out; obtain ⟨z0, z1, z2, z3, z4, z5, z6, z7⟩ := cells4 hy3; have hz3 := hb3.size; have hown3 := HOWN.out.below hb3; clear x0 x1 x2 x3 v0 v1 v2 v3)
        | (go_at_call 35; refine (within_at HS.out _).mono ?_; rintro e w4 ⟨rfl, rfl⟩))
      refine bodyPost_ret (v := .agg #[.int .i64 L, .int .i64 G, .bool H, .slice p' n c']) (by simp [results, Try.results24, go_sem, z0, z1, z2, z3]) rfl ⟨p', c', rfl, hcc, ?_, ?_⟩
      · rw [HM.out]
        obtain ⟨g', h1, h2⟩ := hown3.flat
        exact (((((RowNew.of_flat (B := w.heap.size + 1 + 1) h1 h2 (by simp) (Nat.le_refl _)).far _ (by simp <;> omega)).far _ (by simp <;> omega)).far _ (by simp <;> omega)).far _ (by simp <;> omega)).wide (by omega)
      · exact (((hw3.setCell (by simp <;> omega) _).setCell (by simp <;> omega) _).setCell (by simp <;> omega) _).setCell (by simp <;> omega) _
  · have HM : Hid (mvR L G n s z = z) := by unfold mvR; exact if_neg (fun e => by rw [hk] at e; exact absurd e.1 (by decide))
    simp only [hk] at hbo
    clear hk
    go_enter Try.func24, Try.ntmps24
    go_wp2_with (first
      | (go_at_call 34; refine (hwo.out _ (by repeat (first | exact Below.refl _ _ | refine Below.alloc ?_ (by simp <;> omega) _))).mono ?_; rintro e w2 ⟨gw, p', c', rfl, hcc, hgw, hwb, hown, hne, hb2⟩; have hw2 := below_via hb2 (B := w.heap.size) (w := w) (by repeat (first | exact Below.refl _ _ | refine Below.alloc ?_ (by simp <;> omega) _)) (by simp <;> omega); have hx2 := (hb2.block w.heap.size (by simp <;> omega)).trans ((heap_old _ _ _ (by simp)).trans (heap_new _ _ _ rfl)); have hy2 := (hb2.block (w.heap.size + 1) (by simp <;> omega)).trans (heap_new _ _ _ (by simp)); obtain ⟨x0, x1, x2, x3, -, -, -, -⟩ := cells4 hx2; obtain ⟨v0, v1, v2, v3, -⟩ := hwb.cells; have hz2 : w.heap.size + 1 + 1 ≤ w2.heap.size := (by have := hb2.size; simpa using this); have HX2 := Lib.hid hx2; have HY2 := Lib.hid hy2; have HWB := Lib.hid hwb; have HOWN := Lib.hid hown; have HW2 := Lib.hid hw2; have HNE := Lib.hid hne; have hwl := hwb.lt; clear hx2 hy2 hwb hown hb2 hw2 hne)
      | (go_at_call 13; refine (hbo.out _ HW2.out).mono ?_; rintro e w3 ⟨rfl, hb3⟩; have hw3 : Below w.heap.size w w3 := HW2.out.trans (hb3.mono (by omega)); have hwb3 := HWB.out.below hb3 hwl; obtain ⟨y0, y1, y2, y3, -⟩ := hwb3.cells; have hy3 := (hb3.block (w.heap.size + 1) (by omega)).trans HY2.out; obtain ⟨z0, z1, z2, z3, z4, z5, z6, z7⟩ := cells4 hy3; have hz3 := hb3.size; have hown3 := HOWN.out.below hb3; clear x0 x1 x2 x3 v0 v1 v2 v3))
    refine bodyPost_ret (v := .agg #[.int .i64 L, .int .i64 G, .bool H, .slice p' n c']) (by simp [results, Try.results24, go_sem, z0, z1, z2, z3]) rfl ⟨p', c', rfl, hcc, ?_, ?_⟩
    · rw [HM.out]
      obtain ⟨g', h1, h2⟩ := hown3.flat
      exact (((((RowNew.of_flat (B := w.heap.size + 1 + 1) h1 h2 (by simp) (Nat.le_refl _)).far _ (by simp <;> omega)).far _ (by simp <;> omega)).far _ (by simp <;> omega)).far _ (by simp <;> omega)).wide (by omega)
    · exact (((hw3.setCell (by simp <;> omega) _).setCell (by simp <;> omega) _).setCell (by simp <;> omega) _).setCell (by simp <;> omega) _

end Go.Proofs.Ytlklggkkkbamhaa
