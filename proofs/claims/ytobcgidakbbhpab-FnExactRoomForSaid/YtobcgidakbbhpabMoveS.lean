/- What the model's Move returns. -/
import Derived.Test.YtobcgidakbbhpabSBeltOk
import Derived.Test.YtobcgidakbbhpabMoveI
import Derived.Test.YtobcgidakbbhpabStepS
namespace Go.Proofs.Ytobcgidakbbhpab
open Go.RowKit

set_option maxRecDepth 100000 in
set_option maxHeartbeats 4000000 in
theorem sMove_any (n : Nat) (hn : n ≤ 1048576) (z : Nat → Int) (p : Option Addr) (c g o : Nat) (L G : Int) (H : Bool) (s : Int) (w : World) (h : FlatAt w 0 w.heap.size p g o (n * 3) (fun j => .int .i64 (z j))) :
    Calls Try.prog 89 #[.agg #[.int .i64 L, .int .i64 G, .bool H, .slice p n c], .int .i64 s] w fun e w' => ∃ p' c', e = .returned (.agg #[.int .i64 L, .int .i64 G, .bool H, .slice p' n c']) ∧ n ≤ c' ∧ RowNew w' w.heap.size p' (n * 3) (mvR L G n s z) ∧ Below w.heap.size w w' := by
  have hfr := Lib.hid (fun W (hb : Below w.heap.size w W) => fresh_any n hn z p c g o L G H W ((h.below hb (Nat.le_refl _)).wide (Nat.zero_le _) hb.size))
  have hbo := Lib.hid (fun (W : World) (B : Nat) (p' : Option Addr) (c' : Nat) (hr : RowNew W B p' (n * 3) z) => (by
    obtain ⟨g', o', h1, h2⟩ := hr
    exact sBeltOk_any n (by unfold maxLen; omega) z p' c' g' o' L G H W (h1.wide (Nat.zero_le _) (Nat.le_refl _)) : Calls Try.prog 25 #[.agg #[.int .i64 L, .int .i64 G, .bool H, .slice p' n c']] W fun e w' => e = .returned (.bool (okB L G n z)) ∧ Below W.heap.size W w'))
  have c3 := cellsItemS
  clear h
  rcases Bool.eq_false_or_eq_true (okB L G n z) with hk | hk
  · rcases Bool.eq_false_or_eq_true (inB 0 2000 s) with hs | hs
    · have HM : Hid (mvR L G n s z = mvZ L G s.toNat z) := by unfold mvR; exact if_pos ⟨hk, hs⟩
      have HP : Hid (OkP L G n z) := okB_iff.1 hk
      obtain ⟨s0, s1⟩ := inB_iff.1 hs
      simp only [hk] at hbo
      have HS := Lib.hid hs
      clear hs hk
      go_enter Try.func89, Try.ntmps89
      go_wp2_with (go_at_call 75; refine (hfr.out _ (by repeat (first | exact Below.refl _ _ | refine Below.alloc ?_ (by simp <;> omega) _ | refine Below.setCell ?_ (by simp <;> omega) _ | refine Below.drew ?_))).mono ?_; rintro e w2 ⟨p', c', rfl, hcc, hown, hb2⟩; have hx2 : w2.heap[w.heap.size]? = some (.cells #[.int .i64 L, .int .i64 G, .bool H, .slice p n c] 28 (0, 0)) := (hb2.block w.heap.size (by simp <;> omega)).trans ((heap_old _ _ _ (by simp)).trans (heap_new _ _ _ rfl)); obtain ⟨x0, x1, x2, x3, x4, x5, x6, x7⟩ := cells4 hx2; have hz2 : w.heap.size + 1 + 1 ≤ w2.heap.size := (by have := hb2.size; simpa using this); have HX2 := Lib.hid hx2; have hy2 : w2.heap[w.heap.size + 1]? = some (.cells #[.int .i64 0, .int .i64 0, .bool false, .slice none 0 0] 28 (0, 0)) := (hb2.block (w.heap.size + 1) (by simp <;> omega)).trans (heap_new _ _ _ (by simp)); have HY2 := Lib.hid hy2; clear hy2; have HB2 := Lib.hid hb2; clear hx2 hb2)
      obtain ⟨g', f1, f2⟩ := hown.flat
      obtain ⟨wa, hwa⟩ : ∃ wa, wa = ((((w2.setCell ⟨w.heap.size, 0, none⟩ (.int .i64 L)).setCell ⟨w.heap.size, 1, none⟩ (.int .i64 G)).setCell ⟨w.heap.size, 2, none⟩ (.bool H)).setCell ⟨w.heap.size, 3, none⟩ (.slice p' n c')) := ⟨_, rfl⟩
      have hxa : wa.heap[w.heap.size]? = some (.cells #[.int .i64 L, .int .i64 G, .bool H, .slice p' n c'] 28 (0, 0)) := by rw [hwa]; exact blk_set (blk_set (blk_set (blk_set HX2.out _) _) _) _
      have hya : wa.heap[w.heap.size + 1]? = some (.cells #[.int .i64 0, .int .i64 0, .bool false, .slice none 0 0] 28 (0, 0)) := by rw [hwa]; exact (Below.heap_setCell _ _ _ _ (by simp)).trans ((Below.heap_setCell _ _ _ _ (by simp)).trans ((Below.heap_setCell _ _ _ _ (by simp)).trans ((Below.heap_setCell _ _ _ _ (by simp)).trans HY2.out)))
      have hsa : wa.heap.size = w2.heap.size := by rw [hwa]; simp [World.setCell]
      have f1' := f1.wide (show w.heap.size + 1 + 1 ≤ _ by simp) (Nat.le_refl _)
      have ra : RowNew wa (w.heap.size + 1 + 1) p' (n * 3) z := by rw [hwa]; exact ((((RowNew.of_flat (Nat.le_refl _) (Nat.le_refl _) (h1 := f1') (h2 := f2)).far _ (by simp <;> omega)).far _ (by simp <;> omega)).far _ (by simp <;> omega)).far _ (by simp <;> omega)
      have hba : Below w.heap.size w wa := by rw [hwa]; exact ((((below_via HB2.out (by repeat (first | exact Below.refl _ _ | refine Below.alloc ?_ (by simp <;> omega) _ | refine Below.setCell ?_ (by simp <;> omega) _ | refine Below.drew ?_)) (by simp <;> omega)).setCell (by simp) _).setCell (by simp) _).setCell (by simp) _).setCell (by simp) _
      have HWA := Lib.hid hwa
      clear hwa f1 f1' f2 hown x0 x1 x2 x3 x4 x5 x6 x7 HX2 HY2 HB2
      rw [← HWA.out]
      have XA := Lib.hid hxa
      have YA := Lib.hid hya
      have RA := Lib.hid ra
      have BA := Lib.hid hba
      clear hxa hya ra hba
      obtain ⟨x0, x1, x2, x3, -, -, -, -⟩ := cells4 XA.out
      go_wp2_with fail
      refine (hbo.out wa _ p' c' RA.out).mono ?_
      rintro e w3 ⟨rfl, hb3⟩
      have h3 : Below w.heap.size w w3 := BA.out.trans (hb3.mono (by omega))
      have X3 := Lib.hid ((hb3.block _ (by omega)).trans XA.out)
      have Y3 := Lib.hid ((hb3.block _ (by omega)).trans YA.out)
      have R3 := Lib.hid (RA.out.below hb3)
      have B3 := Lib.hid h3
      have hs3 := hb3.size
      clear h3 hb3 x0 x1 x2 x3 RA BA XA YA HWA
      obtain ⟨x0, x1, x2, x3, x4, x5, x6, x7⟩ := cells4 X3.out
      obtain ⟨z0, z1, z2, z3, z4, z5, z6, z7⟩ := cells4 Y3.out
      go_wp2_with (go_at_call 76; refine (specIn_at HS.out _).mono ?_; rintro e w4 ⟨rfl, rfl⟩)
      clear x0 x1 x2 x3 x4 x5 x6 x7 z0 z1 z2 z3 z4 z5 z6 z7
      go_loopw [5] (fun v wr => ∃ (k : Nat) (p1 : Option Addr) (c1 : Nat), (k : Int) ≤ s ∧ v = .int .i64 (k : Int) ∧ wr.heap[w.heap.size]? = some (.cells #[.int .i64 L, .int .i64 G, .bool H, .slice p1 n c1] 28 (0, 0)) ∧ wr.heap[w.heap.size + 1]? = some (.cells #[.int .i64 0, .int .i64 0, .bool false, .slice none 0 0] 28 (0, 0)) ∧ n ≤ c1 ∧ RowNew wr (w.heap.size + 1 + 1) p1 (n * 3) (mvZ L G k z) ∧ w.heap.size + 1 + 1 ≤ wr.heap.size ∧ Below w.heap.size w wr) (fun v _ => s.toNat - (intOf v).toNat)
      case atStart => exact ⟨0, p', c', by omega, rfl, X3.out, Y3.out, hcc, R3.out, by omega, B3.out⟩
      case round =>
        obtain ⟨k, p1, c1, hk, rfl, h1, h2, h3, h4, h5, h6⟩ := hrel
        obtain ⟨x0, x1, x2, x3, x4, x5, x6, x7⟩ := cells4 h1
        by_cases hks : (k : Int) < s
        · obtain ⟨g1, o1, r1, r2⟩ := h4.row
          have hst := Lib.hid (sStep_any n (mvZ L G k z) p1 c1 g1 o1 L G H wr (HP.out.move k) (r1.wide (Nat.zero_le _) (Nat.le_refl _)))
          have H1 := Lib.hid h1
          have H2 := Lib.hid h2
          have H6 := Lib.hid h6
          have hk0 : (0 : Int) ≤ (k : Int) := by omega
          clear h1 h2 h4 h6 r1 r2
          go_wp2_with (go_at_call 77; refine hst.out.mono ?_; rintro e w4 ⟨p2, c2, rfl, hc2, hrn, hb4⟩; have hx4 := (hb4.block w.heap.size (by omega)).trans H1.out; obtain ⟨y0, y1, y2, y3, y4, y5, y6, y7⟩ := cells4 hx4; have HX4 := Lib.hid hx4; have HR4 := Lib.hid hrn; have HB4 := Lib.hid hb4; clear hx4 hrn hb4 x0 x1 x2 x3 x4 x5 x6 x7)
          have hs4 := HB4.out.size
          go_roundw
          case rel =>
            refine ⟨k + 1, p2, c2, by omega, by congr 1, blk_set (blk_set (blk_set (blk_set HX4.out _) _) _) _, ?_, hc2, ?_, by simp [World.setCell]; omega, ?_⟩
            · exact (Below.heap_setCell _ _ _ _ (by simp)).trans ((Below.heap_setCell _ _ _ _ (by simp)).trans ((Below.heap_setCell _ _ _ _ (by simp)).trans ((Below.heap_setCell _ _ _ _ (by simp)).trans ((HB4.out.block _ (by omega)).trans H2.out))))
            · exact (((((HR4.out.wide h5).far _ (by simp <;> omega)).far _ (by simp <;> omega)).far _ (by simp <;> omega)).far _ (by simp <;> omega))
            · exact ((((H6.out.trans (HB4.out.mono (by omega))).setCell (by simp) _).setCell (by simp) _).setCell (by simp) _).setCell (by simp) _
          case measure => simp only [intOf]; omega
        · obtain rfl : s = (k : Int) := by omega
          obtain ⟨z0, z1, z2, z3, z4, z5, z6, z7⟩ := cells4 h2
          have H4 := Lib.hid h4
          have H6 := Lib.hid h6
          have HM2 : Hid (mvR L G n (k : Int) z = mvZ L G k z) := by have := HM.out; rwa [Int.toNat_natCast] at this
          clear h1 h2 h4 h6
          go_wp2_with fail
          refine bodyPost_ret (v := .agg #[.int .i64 L, .int .i64 G, .bool H, .slice p1 n c1]) (by simp [results, Try.results89, go_sem, z0, z1, z2, z3]) rfl ⟨p1, c1, rfl, h3, ?_, ?_⟩
          · rw [HM2.out]
            exact (((((H4.out).far _ (by simp <;> omega)).far _ (by simp <;> omega)).far _ (by simp <;> omega)).far _ (by simp <;> omega)).wide (by omega)
          · exact (((H6.out.setCell (by simp <;> omega) _).setCell (by simp <;> omega) _).setCell (by simp <;> omega) _).setCell (by simp <;> omega) _
    · have HM : Hid (mvR L G n s z = z) := by unfold mvR; exact if_neg (fun e => by rw [hs] at e; exact absurd e.2 (by decide))
      simp only [hk] at hbo
      have HS := Lib.hid hs
      clear hs hk
      go_enter Try.func89, Try.ntmps89
      go_wp2_with (go_at_call 75; refine (hfr.out _ (by repeat (first | exact Below.refl _ _ | refine Below.alloc ?_ (by simp <;> omega) _ | refine Below.setCell ?_ (by simp <;> omega) _ | refine Below.drew ?_))).mono ?_; rintro e w2 ⟨p', c', rfl, hcc, hown, hb2⟩; have hx2 : w2.heap[w.heap.size]? = some (.cells #[.int .i64 L, .int .i64 G, .bool H, .slice p n c] 28 (0, 0)) := (hb2.block w.heap.size (by simp <;> omega)).trans ((heap_old _ _ _ (by simp)).trans (heap_new _ _ _ rfl)); obtain ⟨x0, x1, x2, x3, x4, x5, x6, x7⟩ := cells4 hx2; have hz2 : w.heap.size + 1 + 1 ≤ w2.heap.size := (by have := hb2.size; simpa using this); have HX2 := Lib.hid hx2; have hy2 : w2.heap[w.heap.size + 1]? = some (.cells #[.int .i64 0, .int .i64 0, .bool false, .slice none 0 0] 28 (0, 0)) := (hb2.block (w.heap.size + 1) (by simp <;> omega)).trans (heap_new _ _ _ (by simp)); have HY2 := Lib.hid hy2; clear hy2; have HB2 := Lib.hid hb2; clear hx2 hb2)
      obtain ⟨g', f1, f2⟩ := hown.flat
      obtain ⟨wa, hwa⟩ : ∃ wa, wa = ((((w2.setCell ⟨w.heap.size, 0, none⟩ (.int .i64 L)).setCell ⟨w.heap.size, 1, none⟩ (.int .i64 G)).setCell ⟨w.heap.size, 2, none⟩ (.bool H)).setCell ⟨w.heap.size, 3, none⟩ (.slice p' n c')) := ⟨_, rfl⟩
      have hxa : wa.heap[w.heap.size]? = some (.cells #[.int .i64 L, .int .i64 G, .bool H, .slice p' n c'] 28 (0, 0)) := by rw [hwa]; exact blk_set (blk_set (blk_set (blk_set HX2.out _) _) _) _
      have hya : wa.heap[w.heap.size + 1]? = some (.cells #[.int .i64 0, .int .i64 0, .bool false, .slice none 0 0] 28 (0, 0)) := by rw [hwa]; exact (Below.heap_setCell _ _ _ _ (by simp)).trans ((Below.heap_setCell _ _ _ _ (by simp)).trans ((Below.heap_setCell _ _ _ _ (by simp)).trans ((Below.heap_setCell _ _ _ _ (by simp)).trans HY2.out)))
      have hsa : wa.heap.size = w2.heap.size := by rw [hwa]; simp [World.setCell]
      have f1' := f1.wide (show w.heap.size + 1 + 1 ≤ _ by simp) (Nat.le_refl _)
      have ra : RowNew wa (w.heap.size + 1 + 1) p' (n * 3) z := by rw [hwa]; exact ((((RowNew.of_flat (Nat.le_refl _) (Nat.le_refl _) (h1 := f1') (h2 := f2)).far _ (by simp <;> omega)).far _ (by simp <;> omega)).far _ (by simp <;> omega)).far _ (by simp <;> omega)
      have hba : Below w.heap.size w wa := by rw [hwa]; exact ((((below_via HB2.out (by repeat (first | exact Below.refl _ _ | refine Below.alloc ?_ (by simp <;> omega) _ | refine Below.setCell ?_ (by simp <;> omega) _ | refine Below.drew ?_)) (by simp <;> omega)).setCell (by simp) _).setCell (by simp) _).setCell (by simp) _).setCell (by simp) _
      have HWA := Lib.hid hwa
      clear hwa f1 f1' f2 hown x0 x1 x2 x3 x4 x5 x6 x7 HX2 HY2 HB2
      rw [← HWA.out]
      have XA := Lib.hid hxa
      have YA := Lib.hid hya
      have RA := Lib.hid ra
      have BA := Lib.hid hba
      clear hxa hya ra hba
      obtain ⟨x0, x1, x2, x3, -, -, -, -⟩ := cells4 XA.out
      go_wp2_with fail
      refine (hbo.out wa _ p' c' RA.out).mono ?_
      rintro e w3 ⟨rfl, hb3⟩
      have h3 : Below w.heap.size w w3 := BA.out.trans (hb3.mono (by omega))
      have X3 := Lib.hid ((hb3.block _ (by omega)).trans XA.out)
      have Y3 := Lib.hid ((hb3.block _ (by omega)).trans YA.out)
      have R3 := Lib.hid (RA.out.below hb3)
      have B3 := Lib.hid h3
      have hs3 := hb3.size
      clear h3 hb3 x0 x1 x2 x3 RA BA XA YA HWA
      obtain ⟨x0, x1, x2, x3, x4, x5, x6, x7⟩ := cells4 X3.out
      obtain ⟨z0, z1, z2, z3, z4, z5, z6, z7⟩ := cells4 Y3.out
      go_wp2_with (go_at_call 76; refine (specIn_at HS.out _).mono ?_; rintro e w4 ⟨rfl, rfl⟩)
      refine bodyPost_ret (v := .agg #[.int .i64 L, .int .i64 G, .bool H, .slice p' n c']) (by simp [results, Try.results89, go_sem, z0, z1, z2, z3]) rfl ⟨p', c', rfl, hcc, ?_, ?_⟩
      · rw [HM.out]
        exact (((((R3.out).far _ (by simp <;> omega)).far _ (by simp <;> omega)).far _ (by simp <;> omega)).far _ (by simp <;> omega)).wide (by omega)
      · exact (((B3.out.setCell (by simp <;> omega) _).setCell (by simp <;> omega) _).setCell (by simp <;> omega) _).setCell (by simp <;> omega) _
  · have HM : Hid (mvR L G n s z = z) := by unfold mvR; exact if_neg (fun e => by rw [hk] at e; exact absurd e.1 (by decide))
    simp only [hk] at hbo
    clear hk
    go_enter Try.func89, Try.ntmps89
    go_wp2_with (go_at_call 75; refine (hfr.out _ (by repeat (first | exact Below.refl _ _ | refine Below.alloc ?_ (by simp <;> omega) _ | refine Below.setCell ?_ (by simp <;> omega) _ | refine Below.drew ?_))).mono ?_; rintro e w2 ⟨p', c', rfl, hcc, hown, hb2⟩; have hx2 : w2.heap[w.heap.size]? = some (.cells #[.int .i64 L, .int .i64 G, .bool H, .slice p n c] 28 (0, 0)) := (hb2.block w.heap.size (by simp <;> omega)).trans ((heap_old _ _ _ (by simp)).trans (heap_new _ _ _ rfl)); obtain ⟨x0, x1, x2, x3, x4, x5, x6, x7⟩ := cells4 hx2; have hz2 : w.heap.size + 1 + 1 ≤ w2.heap.size := (by have := hb2.size; simpa using this); have HX2 := Lib.hid hx2; have hy2 : w2.heap[w.heap.size + 1]? = some (.cells #[.int .i64 0, .int .i64 0, .bool false, .slice none 0 0] 28 (0, 0)) := (hb2.block (w.heap.size + 1) (by simp <;> omega)).trans (heap_new _ _ _ (by simp)); have HY2 := Lib.hid hy2; clear hy2; have HB2 := Lib.hid hb2; clear hx2 hb2)
    obtain ⟨g', f1, f2⟩ := hown.flat
    obtain ⟨wa, hwa⟩ : ∃ wa, wa = ((((w2.setCell ⟨w.heap.size, 0, none⟩ (.int .i64 L)).setCell ⟨w.heap.size, 1, none⟩ (.int .i64 G)).setCell ⟨w.heap.size, 2, none⟩ (.bool H)).setCell ⟨w.heap.size, 3, none⟩ (.slice p' n c')) := ⟨_, rfl⟩
    have hxa : wa.heap[w.heap.size]? = some (.cells #[.int .i64 L, .int .i64 G, .bool H, .slice p' n c'] 28 (0, 0)) := by rw [hwa]; exact blk_set (blk_set (blk_set (blk_set HX2.out _) _) _) _
    have hya : wa.heap[w.heap.size + 1]? = some (.cells #[.int .i64 0, .int .i64 0, .bool false, .slice none 0 0] 28 (0, 0)) := by rw [hwa]; exact (Below.heap_setCell _ _ _ _ (by simp)).trans ((Below.heap_setCell _ _ _ _ (by simp)).trans ((Below.heap_setCell _ _ _ _ (by simp)).trans ((Below.heap_setCell _ _ _ _ (by simp)).trans HY2.out)))
    have hsa : wa.heap.size = w2.heap.size := by rw [hwa]; simp [World.setCell]
    have f1' := f1.wide (show w.heap.size + 1 + 1 ≤ _ by simp) (Nat.le_refl _)
    have ra : RowNew wa (w.heap.size + 1 + 1) p' (n * 3) z := by rw [hwa]; exact ((((RowNew.of_flat (Nat.le_refl _) (Nat.le_refl _) (h1 := f1') (h2 := f2)).far _ (by simp <;> omega)).far _ (by simp <;> omega)).far _ (by simp <;> omega)).far _ (by simp <;> omega)
    have hba : Below w.heap.size w wa := by rw [hwa]; exact ((((below_via HB2.out (by repeat (first | exact Below.refl _ _ | refine Below.alloc ?_ (by simp <;> omega) _ | refine Below.setCell ?_ (by simp <;> omega) _ | refine Below.drew ?_)) (by simp <;> omega)).setCell (by simp) _).setCell (by simp) _).setCell (by simp) _).setCell (by simp) _
    have HWA := Lib.hid hwa
    clear hwa f1 f1' f2 hown x0 x1 x2 x3 x4 x5 x6 x7 HX2 HY2 HB2
    rw [← HWA.out]
    have XA := Lib.hid hxa
    have YA := Lib.hid hya
    have RA := Lib.hid ra
    have BA := Lib.hid hba
    clear hxa hya ra hba
    obtain ⟨x0, x1, x2, x3, -, -, -, -⟩ := cells4 XA.out
    go_wp2_with fail
    refine (hbo.out wa _ p' c' RA.out).mono ?_
    rintro e w3 ⟨rfl, hb3⟩
    have h3 : Below w.heap.size w w3 := BA.out.trans (hb3.mono (by omega))
    have X3 := Lib.hid ((hb3.block _ (by omega)).trans XA.out)
    have Y3 := Lib.hid ((hb3.block _ (by omega)).trans YA.out)
    have R3 := Lib.hid (RA.out.below hb3)
    have B3 := Lib.hid h3
    have hs3 := hb3.size
    clear h3 hb3 x0 x1 x2 x3 RA BA XA YA HWA
    obtain ⟨x0, x1, x2, x3, x4, x5, x6, x7⟩ := cells4 X3.out
    obtain ⟨z0, z1, z2, z3, z4, z5, z6, z7⟩ := cells4 Y3.out
    go_wp2_with fail
    refine bodyPost_ret (v := .agg #[.int .i64 L, .int .i64 G, .bool H, .slice p' n c']) (by simp [results, Try.results89, go_sem, z0, z1, z2, z3]) rfl ⟨p', c', rfl, hcc, ?_, ?_⟩
    · rw [HM.out]
      exact (((((R3.out).far _ (by simp <;> omega)).far _ (by simp <;> omega)).far _ (by simp <;> omega)).far _ (by simp <;> omega)).wide (by omega)
    · exact (((B3.out.setCell (by simp <;> omega) _).setCell (by simp <;> omega) _).setCell (by simp <;> omega) _).setCell (by simp <;> omega) _

end Go.Proofs.Ytobcgidakbbhpab
