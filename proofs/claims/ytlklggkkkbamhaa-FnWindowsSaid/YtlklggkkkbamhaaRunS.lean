/- What the model's Run returns. -/
import Derived.Test.YtlklggkkkbamhaaRunStep
import Derived.Test.YtlklggkkkbamhaaLeaveU
import Derived.Test.YtlklggkkkbamhaaSBeltOk
import Derived.Test.YtlklggkkkbamhaaStepS
import Derived.Test.YtlklggkkkbamhaaMoveI
import Derived.Test.YtlklggkkkbamhaaOwnV
namespace Go.Proofs.Ytlklggkkkbamhaa
open Go.RowKit
set_option linter.unusedVariables false

theorem infoExitS : (Try.prog.info? 34).map (fun i => (i.zero, i.size, i.bytes)) = some (some (.agg #[.int .i64 0, .int .i64 0]), 2, 16) := by kernel_rfl
theorem cellsExitS : Try.prog.cellsOf 34 = 2 := by kernel_rfl
theorem lv_lq {L G : Int} {H : Bool} {n : Nat} {z : Nat → Int} (h : OkP L G n z) : lvOk L G H n z = lq L H n z := by
  unfold lvOk lq
  rw [okB_yes h, Bool.true_and]
theorem lv_all {L G : Int} {H : Bool} {n : Nat} {z : Nat → Int} (h : OkP L G n z) (hl : lq L H n z = true) : lvOk L G H n z = true ∧ lvN L G H n z = n - 1 ∧ lvZ L G H n z = shZ z ∧ lvB L G H n z = z 0 := by
  have e := (lv_lq h (H := H)).trans hl
  exact ⟨e, by unfold lvN; rw [if_pos e], by unfold lvZ; rw [if_pos e], by unfold lvB; rw [if_pos e]⟩
theorem lv_none {L G : Int} {H : Bool} {n : Nat} {z : Nat → Int} (h : OkP L G n z) (hl : lq L H n z = false) : lvOk L G H n z = false ∧ lvN L G H n z = n ∧ lvZ L G H n z = z ∧ lvB L G H n z = 0 := by
  have e := (lv_lq h (H := H)).trans hl
  have e' : ¬ lvOk L G H n z = true := by rw [e]; decide
  exact ⟨e, by unfold lvN; rw [if_neg e'], by unfold lvZ; rw [if_neg e'], by unfold lvB; rw [if_neg e']⟩


set_option maxRecDepth 100000 in
set_option maxHeartbeats 4000000 in
theorem sRun_bad (n : Nat) (hn : n ≤ 1048576) (z : Nat → Int) (p : Option Addr) (c g o : Nat) (L G : Int) (H : Bool) (w : World) (h : FlatAt w 0 w.heap.size p g o (n * 3) (fun j => .int .i64 (z j))) (s : Int) (hbad : okB L G n z = false ∨ inB 0 2000 s = false) :
    Calls Try.prog 10 #[.agg #[.int .i64 L, .int .i64 G, .bool H, .slice p n c], .int .i64 s] w fun e w' => ∃ p' c' v, e = .returned (.tuple #[.agg #[.int .i64 L, .int .i64 G, .bool H, .slice p' n c'], v]) ∧ Own w' w.heap.size w'.heap.size (.slice p' n c') n (n * 3) z ∧ Own w' w.heap.size w'.heap.size v 0 0 (fun _ => 0) ∧ Below w.heap.size w w' := by
  have hfr := Lib.hid (fun W (hb : Below w.heap.size w W) => fresh_any n hn z p c g o L G H W ((h.below hb (Nat.le_refl _)).wide (Nat.zero_le _) hb.size))
  have hbo := Lib.hid (fun (W : World) (B : Nat) (p' : Option Addr) (c' : Nat) (hr : RowNew W B p' (n * 3) z) => (by
    obtain ⟨g', o', h1, h2⟩ := hr
    exact sBeltOk_any n (by unfold maxLen; omega) z p' c' g' o' L G H W (h1.wide (Nat.zero_le _) (Nat.le_refl _)) : Calls Try.prog 8 #[.agg #[.int .i64 L, .int .i64 G, .bool H, .slice p' n c']] W fun e w' => e = .returned (.bool (okB L G n z)) ∧ Below W.heap.size W w'))
  have c3 := cellsItemS
  clear h
  rcases Bool.eq_false_or_eq_true (okB L G n z) with hk | hk
  · have hs : inB 0 2000 s = false := by rcases hbad with e | e; (rw [hk] at e; cases e); exact e
    simp only [hk] at hbo
    have HS := Lib.hid hs
    clear hs hk hbad
    go_enter Try.func10, Try.ntmps10
    go_upto_region 3 with (go_at_call 37; refine (hfr.out _ (by repeat (first | exact Below.refl _ _ | refine Below.alloc ?_ (by simp <;> omega) _ | refine Below.setCell ?_ (by simp <;> omega) _ | refine Below.drew ?_))).mono ?_; rintro e w2 ⟨p', c', rfl, hcc, hown, hb2⟩; have hx2 : w2.heap[w.heap.size]? = some (.cells #[.int .i64 L, .int .i64 G, .bool H, .slice p n c] 24 (0, 0)) := (hb2.block w.heap.size (by simp <;> omega)).trans ((heap_old _ _ _ (by simp)).trans (heap_new _ _ _ rfl)); obtain ⟨x0, x1, x2, x3, x4, x5, x6, x7⟩ := cells4 hx2; have hz2 : w.heap.size + 1 + 1 ≤ w2.heap.size := (by have := hb2.size; simpa using this); have HX2 := Lib.hid hx2; have hy2 : w2.heap[w.heap.size + 1]? = some (.cells #[.int .i64 0, .int .i64 0, .bool false, .slice none 0 0] 24 (0, 0)) := (hb2.block (w.heap.size + 1) (by simp <;> omega)).trans (heap_new _ _ _ (by simp)); have HY2 := Lib.hid hy2; clear hy2; have HB2 := Lib.hid hb2; clear hx2 hb2)
    obtain ⟨g', f1, f2⟩ := hown.flat
    obtain ⟨wa, hwa⟩ : ∃ wa, wa = ((((w2.setCell ⟨w.heap.size, 0, none⟩ (.int .i64 L)).setCell ⟨w.heap.size, 1, none⟩ (.int .i64 G)).setCell ⟨w.heap.size, 2, none⟩ (.bool H)).setCell ⟨w.heap.size, 3, none⟩ (.slice p' n c')) := ⟨_, rfl⟩
    have hxa : wa.heap[w.heap.size]? = some (.cells #[.int .i64 L, .int .i64 G, .bool H, .slice p' n c'] 24 (0, 0)) := by rw [hwa]; exact blk_set (blk_set (blk_set (blk_set HX2.out _) _) _) _
    have hya : wa.heap[w.heap.size + 1]? = some (.cells #[.int .i64 0, .int .i64 0, .bool false, .slice none 0 0] 24 (0, 0)) := by rw [hwa]; exact (Below.heap_setCell _ _ _ _ (by simp)).trans ((Below.heap_setCell _ _ _ _ (by simp)).trans ((Below.heap_setCell _ _ _ _ (by simp)).trans ((Below.heap_setCell _ _ _ _ (by simp)).trans HY2.out)))
    have hsa : wa.heap.size = w2.heap.size := by rw [hwa]; simp [World.setCell]
    have f1' := f1.wide (show w.heap.size + 1 + 1 ≤ _ by simp) (Nat.le_refl _)
    have ra : RowNew wa (w.heap.size + 1 + 1) p' (n * 3) z := by rw [hwa]; exact ((((RowNew.of_flat (Nat.le_refl _) (Nat.le_refl _) (h1 := f1') (h2 := f2)).far _ (by simp <;> omega)).far _ (by simp <;> omega)).far _ (by simp <;> omega)).far _ (by simp <;> omega)
    have hba : Below w.heap.size w wa := by rw [hwa]; exact ((((below_via HB2.out (by repeat (first | exact Below.refl _ _ | refine Below.alloc ?_ (by simp <;> omega) _ | refine Below.setCell ?_ (by simp <;> omega) _ | refine Below.drew ?_)) (by simp <;> omega)).setCell (by simp) _).setCell (by simp) _).setCell (by simp) _).setCell (by simp) _
    have HWA := Lib.hid hwa
    clear hwa f1 f1' f2 hown x0 x1 x2 x3 x4 x5 x6 x7 HX2 HY2 HB2
    rw [← HWA.out]
    obtain ⟨wb, hwb⟩ : ∃ wb, wb = wa.alloc (.cells #[] 34) := ⟨_, rfl⟩
    have bab : Below wa.heap.size wa wb := by rw [hwb]; exact (Below.refl _ _).alloc (Nat.le_refl _) _
    have hE : wb.heap[w2.heap.size]? = some (.cells #[] 34 (0, 0)) := by rw [hwb]; exact heap_new _ _ _ hsa.symm
    have hsb := bab.size
    have XA := Lib.hid ((bab.block _ (by omega)).trans hxa)
    have YA := Lib.hid ((bab.block _ (by omega)).trans hya)
    have RA := Lib.hid (ra.below bab)
    have BA := Lib.hid (hba.trans (bab.mono (by omega)))
    have HWB := Lib.hid hwb
    have HE0 := Lib.hid hE
    have hla : w.heap.size + 1 + 1 ≤ wa.heap.size := by omega
    have hlab : wa.heap.size < wb.heap.size := by rw [hwb]; simp
    clear hxa hya ra hba hwb hE bab
    obtain ⟨x0, x1, x2, x3, -, -, -, -⟩ := cells4 XA.out
    rw [← HWB.out]
    go_wp2_with fail
    refine (hbo.out wb _ p' c' RA.out).mono ?_
    rintro e w3 ⟨rfl, hb3⟩
    have h3 : Below w.heap.size w w3 := BA.out.trans (hb3.mono (by omega))
    have X3 := Lib.hid ((hb3.block _ (by omega)).trans XA.out)
    have Y3 := Lib.hid ((hb3.block _ (by omega)).trans YA.out)
    have E3 := Lib.hid ((hb3.block _ (by omega)).trans HE0.out)
    have R3 := Lib.hid (RA.out.below hb3)
    have B3 := Lib.hid h3
    have hs3 := hb3.size
    clear h3 hb3 x0 x1 x2 x3 RA BA XA YA HWA HWB HE0
    obtain ⟨x0, x1, x2, x3, x4, x5, x6, x7⟩ := cells4 X3.out
    obtain ⟨z0, z1, z2, z3, z4, z5, z6, z7⟩ := cells4 Y3.out
    go_wp2_with (go_at_call 33; refine (specIn_at HS.out _).mono ?_; rintro e w4 ⟨rfl, rfl⟩)
    refine bodyPost_ret (v := .tuple #[.agg #[.int .i64 L, .int .i64 G, .bool H, .slice p' n c'], .slice (some ⟨w2.heap.size, 0, none⟩) 0 0]) (by simp [results, Try.results10, go_sem, z0, z1, z2, z3]) rfl ⟨p', c', _, rfl, ?_, ⟨_, 0, 0, 0, rfl, Nat.le_refl _, FlatAt.zero _ _ _ _ _ _ _, fun j hj => absurd hj (by omega)⟩, ?_⟩
    · obtain ⟨gg, oo, q1, q2⟩ := R3.out
      exact ⟨p', c', gg, oo, rfl, hcc, ((((q1.far _ (.inl (by simp <;> omega))).far _ (.inl (by simp <;> omega))).far _ (.inl (by simp <;> omega))).far _ (.inl (by simp <;> omega))).wide (by omega) (by simp [World.setCell]), (((q2.set _ _).set _ _).set _ _).set _ _⟩
    · exact (((B3.out.setCell (by simp <;> omega) _).setCell (by simp <;> omega) _).setCell (by simp <;> omega) _).setCell (by simp <;> omega) _
  · simp only [hk] at hbo
    clear hk hbad
    go_enter Try.func10, Try.ntmps10
    go_upto_region 3 with (go_at_call 37; refine (hfr.out _ (by repeat (first | exact Below.refl _ _ | refine Below.alloc ?_ (by simp <;> omega) _ | refine Below.setCell ?_ (by simp <;> omega) _ | refine Below.drew ?_))).mono ?_; rintro e w2 ⟨p', c', rfl, hcc, hown, hb2⟩; have hx2 : w2.heap[w.heap.size]? = some (.cells #[.int .i64 L, .int .i64 G, .bool H, .slice p n c] 24 (0, 0)) := (hb2.block w.heap.size (by simp <;> omega)).trans ((heap_old _ _ _ (by simp)).trans (heap_new _ _ _ rfl)); obtain ⟨x0, x1, x2, x3, x4, x5, x6, x7⟩ := cells4 hx2; have hz2 : w.heap.size + 1 + 1 ≤ w2.heap.size := (by have := hb2.size; simpa using this); have HX2 := Lib.hid hx2; have hy2 : w2.heap[w.heap.size + 1]? = some (.cells #[.int .i64 0, .int .i64 0, .bool false, .slice none 0 0] 24 (0, 0)) := (hb2.block (w.heap.size + 1) (by simp <;> omega)).trans (heap_new _ _ _ (by simp)); have HY2 := Lib.hid hy2; clear hy2; have HB2 := Lib.hid hb2; clear hx2 hb2)
    obtain ⟨g', f1, f2⟩ := hown.flat
    obtain ⟨wa, hwa⟩ : ∃ wa, wa = ((((w2.setCell ⟨w.heap.size, 0, none⟩ (.int .i64 L)).setCell ⟨w.heap.size, 1, none⟩ (.int .i64 G)).setCell ⟨w.heap.size, 2, none⟩ (.bool H)).setCell ⟨w.heap.size, 3, none⟩ (.slice p' n c')) := ⟨_, rfl⟩
    have hxa : wa.heap[w.heap.size]? = some (.cells #[.int .i64 L, .int .i64 G, .bool H, .slice p' n c'] 24 (0, 0)) := by rw [hwa]; exact blk_set (blk_set (blk_set (blk_set HX2.out _) _) _) _
    have hya : wa.heap[w.heap.size + 1]? = some (.cells #[.int .i64 0, .int .i64 0, .bool false, .slice none 0 0] 24 (0, 0)) := by rw [hwa]; exact (Below.heap_setCell _ _ _ _ (by simp)).trans ((Below.heap_setCell _ _ _ _ (by simp)).trans ((Below.heap_setCell _ _ _ _ (by simp)).trans ((Below.heap_setCell _ _ _ _ (by simp)).trans HY2.out)))
    have hsa : wa.heap.size = w2.heap.size := by rw [hwa]; simp [World.setCell]
    have f1' := f1.wide (show w.heap.size + 1 + 1 ≤ _ by simp) (Nat.le_refl _)
    have ra : RowNew wa (w.heap.size + 1 + 1) p' (n * 3) z := by rw [hwa]; exact ((((RowNew.of_flat (Nat.le_refl _) (Nat.le_refl _) (h1 := f1') (h2 := f2)).far _ (by simp <;> omega)).far _ (by simp <;> omega)).far _ (by simp <;> omega)).far _ (by simp <;> omega)
    have hba : Below w.heap.size w wa := by rw [hwa]; exact ((((below_via HB2.out (by repeat (first | exact Below.refl _ _ | refine Below.alloc ?_ (by simp <;> omega) _ | refine Below.setCell ?_ (by simp <;> omega) _ | refine Below.drew ?_)) (by simp <;> omega)).setCell (by simp) _).setCell (by simp) _).setCell (by simp) _).setCell (by simp) _
    have HWA := Lib.hid hwa
    clear hwa f1 f1' f2 hown x0 x1 x2 x3 x4 x5 x6 x7 HX2 HY2 HB2
    rw [← HWA.out]
    obtain ⟨wb, hwb⟩ : ∃ wb, wb = wa.alloc (.cells #[] 34) := ⟨_, rfl⟩
    have bab : Below wa.heap.size wa wb := by rw [hwb]; exact (Below.refl _ _).alloc (Nat.le_refl _) _
    have hE : wb.heap[w2.heap.size]? = some (.cells #[] 34 (0, 0)) := by rw [hwb]; exact heap_new _ _ _ hsa.symm
    have hsb := bab.size
    have XA := Lib.hid ((bab.block _ (by omega)).trans hxa)
    have YA := Lib.hid ((bab.block _ (by omega)).trans hya)
    have RA := Lib.hid (ra.below bab)
    have BA := Lib.hid (hba.trans (bab.mono (by omega)))
    have HWB := Lib.hid hwb
    have HE0 := Lib.hid hE
    have hla : w.heap.size + 1 + 1 ≤ wa.heap.size := by omega
    have hlab : wa.heap.size < wb.heap.size := by rw [hwb]; simp
    clear hxa hya ra hba hwb hE bab
    obtain ⟨x0, x1, x2, x3, -, -, -, -⟩ := cells4 XA.out
    rw [← HWB.out]
    go_wp2_with fail
    refine (hbo.out wb _ p' c' RA.out).mono ?_
    rintro e w3 ⟨rfl, hb3⟩
    have h3 : Below w.heap.size w w3 := BA.out.trans (hb3.mono (by omega))
    have X3 := Lib.hid ((hb3.block _ (by omega)).trans XA.out)
    have Y3 := Lib.hid ((hb3.block _ (by omega)).trans YA.out)
    have E3 := Lib.hid ((hb3.block _ (by omega)).trans HE0.out)
    have R3 := Lib.hid (RA.out.below hb3)
    have B3 := Lib.hid h3
    have hs3 := hb3.size
    clear h3 hb3 x0 x1 x2 x3 RA BA XA YA HWA HWB HE0
    obtain ⟨x0, x1, x2, x3, x4, x5, x6, x7⟩ := cells4 X3.out
    obtain ⟨z0, z1, z2, z3, z4, z5, z6, z7⟩ := cells4 Y3.out
    go_wp2_with fail
    refine bodyPost_ret (v := .tuple #[.agg #[.int .i64 L, .int .i64 G, .bool H, .slice p' n c'], .slice (some ⟨w2.heap.size, 0, none⟩) 0 0]) (by simp [results, Try.results10, go_sem, z0, z1, z2, z3]) rfl ⟨p', c', _, rfl, ?_, ⟨_, 0, 0, 0, rfl, Nat.le_refl _, FlatAt.zero _ _ _ _ _ _ _, fun j hj => absurd hj (by omega)⟩, ?_⟩
    · obtain ⟨gg, oo, q1, q2⟩ := R3.out
      exact ⟨p', c', gg, oo, rfl, hcc, ((((q1.far _ (.inl (by simp <;> omega))).far _ (.inl (by simp <;> omega))).far _ (.inl (by simp <;> omega))).far _ (.inl (by simp <;> omega))).wide (by omega) (by simp [World.setCell]), (((q2.set _ _).set _ _).set _ _).set _ _⟩
    · exact (((B3.out.setCell (by simp <;> omega) _).setCell (by simp <;> omega) _).setCell (by simp <;> omega) _).setCell (by simp <;> omega) _

set_option maxRecDepth 100000 in
set_option maxHeartbeats 4000000 in
theorem sRun_ok (n : Nat) (hn : n ≤ 1048576) (z : Nat → Int) (p : Option Addr) (c g o : Nat) (L G : Int) (H : Bool) (w : World) (h : FlatAt w 0 w.heap.size p g o (n * 3) (fun j => .int .i64 (z j))) (S : Nat) (hS : S ≤ 2000) (hok : OkP L G n z) :
    Calls Try.prog 10 #[.agg #[.int .i64 L, .int .i64 G, .bool H, .slice p n c], .int .i64 (S : Int)] w fun e w' => ∃ p' c' v, e = .returned (.tuple #[.agg #[.int .i64 L, .int .i64 G, .bool H, .slice p' (ru L G H n z S).n c'], v]) ∧ Own w' w.heap.size w'.heap.size (.slice p' (ru L G H n z S).n c') (ru L G H n z S).n ((ru L G H n z S).n * 3) (ru L G H n z S).z ∧ Own w' w.heap.size w'.heap.size v (n - (ru L G H n z S).n) ((n - (ru L G H n z S).n) * 2) (fun j => (ru L G H n z S).l.getD j 0) ∧ Below w.heap.size w w' := by
  obtain ⟨i0, hi, hz0, hz1, hzB⟩ := info_parts infoExitS
  have c2 := cellsExitS
  have hfr := Lib.hid (fun W (hb : Below w.heap.size w W) => fresh_any n hn z p c g o L G H W ((h.below hb (Nat.le_refl _)).wide (Nat.zero_le _) hb.size))
  have hbo := Lib.hid (fun (W : World) (B : Nat) (p' : Option Addr) (c' : Nat) (hr : RowNew W B p' (n * 3) z) => (by
    obtain ⟨g', o', h1, h2⟩ := hr
    exact sBeltOk_any n (by unfold maxLen; omega) z p' c' g' o' L G H W (h1.wide (Nat.zero_le _) (Nat.le_refl _)) : Calls Try.prog 8 #[.agg #[.int .i64 L, .int .i64 G, .bool H, .slice p' n c']] W fun e w' => e = .returned (.bool (okB L G n z)) ∧ Below W.heap.size W w'))
  have c3 := cellsItemS
  clear h
  have hs : inB 0 2000 (S : Int) = true := by unfold inB; simp; omega
  simp only [okB_yes hok] at hbo
  have HS := Lib.hid hs
  have HP := Lib.hid (fun k => ru_ok (H := H) hok k)
  have HLEN := Lib.hid (fun k => ru_len (L := L) (G := G) (H := H) (n := n) (z := z) k)
  have hn40 : n ≤ 40 := hok.2.2.1
  clear hs hok
  go_enter Try.func10, Try.ntmps10
  go_upto_region 3 with (go_at_call 37; refine (hfr.out _ (by repeat (first | exact Below.refl _ _ | refine Below.alloc ?_ (by simp <;> omega) _ | refine Below.setCell ?_ (by simp <;> omega) _ | refine Below.drew ?_))).mono ?_; rintro e w2 ⟨p', c', rfl, hcc, hown, hb2⟩; have hx2 : w2.heap[w.heap.size]? = some (.cells #[.int .i64 L, .int .i64 G, .bool H, .slice p n c] 24 (0, 0)) := (hb2.block w.heap.size (by simp <;> omega)).trans ((heap_old _ _ _ (by simp)).trans (heap_new _ _ _ rfl)); obtain ⟨x0, x1, x2, x3, x4, x5, x6, x7⟩ := cells4 hx2; have hz2 : w.heap.size + 1 + 1 ≤ w2.heap.size := (by have := hb2.size; simpa using this); have HX2 := Lib.hid hx2; have hy2 : w2.heap[w.heap.size + 1]? = some (.cells #[.int .i64 0, .int .i64 0, .bool false, .slice none 0 0] 24 (0, 0)) := (hb2.block (w.heap.size + 1) (by simp <;> omega)).trans (heap_new _ _ _ (by simp)); have HY2 := Lib.hid hy2; clear hy2; have HB2 := Lib.hid hb2; clear hx2 hb2)
  obtain ⟨g', f1, f2⟩ := hown.flat
  obtain ⟨wa, hwa⟩ : ∃ wa, wa = ((((w2.setCell ⟨w.heap.size, 0, none⟩ (.int .i64 L)).setCell ⟨w.heap.size, 1, none⟩ (.int .i64 G)).setCell ⟨w.heap.size, 2, none⟩ (.bool H)).setCell ⟨w.heap.size, 3, none⟩ (.slice p' n c')) := ⟨_, rfl⟩
  have hxa : wa.heap[w.heap.size]? = some (.cells #[.int .i64 L, .int .i64 G, .bool H, .slice p' n c'] 24 (0, 0)) := by rw [hwa]; exact blk_set (blk_set (blk_set (blk_set HX2.out _) _) _) _
  have hya : wa.heap[w.heap.size + 1]? = some (.cells #[.int .i64 0, .int .i64 0, .bool false, .slice none 0 0] 24 (0, 0)) := by rw [hwa]; exact (Below.heap_setCell _ _ _ _ (by simp)).trans ((Below.heap_setCell _ _ _ _ (by simp)).trans ((Below.heap_setCell _ _ _ _ (by simp)).trans ((Below.heap_setCell _ _ _ _ (by simp)).trans HY2.out)))
  have hsa : wa.heap.size = w2.heap.size := by rw [hwa]; simp [World.setCell]
  have f1' := f1.wide (show w.heap.size + 1 + 1 ≤ _ by simp) (Nat.le_refl _)
  have ra : RowNew wa (w.heap.size + 1 + 1) p' (n * 3) z := by rw [hwa]; exact ((((RowNew.of_flat (Nat.le_refl _) (Nat.le_refl _) (h1 := f1') (h2 := f2)).far _ (by simp <;> omega)).far _ (by simp <;> omega)).far _ (by simp <;> omega)).far _ (by simp <;> omega)
  have hba : Below w.heap.size w wa := by rw [hwa]; exact ((((below_via HB2.out (by repeat (first | exact Below.refl _ _ | refine Below.alloc ?_ (by simp <;> omega) _ | refine Below.setCell ?_ (by simp <;> omega) _ | refine Below.drew ?_)) (by simp <;> omega)).setCell (by simp) _).setCell (by simp) _).setCell (by simp) _).setCell (by simp) _
  have HWA := Lib.hid hwa
  clear hwa f1 f1' f2 hown x0 x1 x2 x3 x4 x5 x6 x7 HX2 HY2 HB2
  rw [← HWA.out]
  obtain ⟨wb, hwb⟩ : ∃ wb, wb = wa.alloc (.cells #[] 34) := ⟨_, rfl⟩
  have bab : Below wa.heap.size wa wb := by rw [hwb]; exact (Below.refl _ _).alloc (Nat.le_refl _) _
  have hE : wb.heap[w2.heap.size]? = some (.cells #[] 34 (0, 0)) := by rw [hwb]; exact heap_new _ _ _ hsa.symm
  have hsb := bab.size
  have XA := Lib.hid ((bab.block _ (by omega)).trans hxa)
  have YA := Lib.hid ((bab.block _ (by omega)).trans hya)
  have RA := Lib.hid (ra.below bab)
  have BA := Lib.hid (hba.trans (bab.mono (by omega)))
  have HWB := Lib.hid hwb
  have HE0 := Lib.hid hE
  have hla : w.heap.size + 1 + 1 ≤ wa.heap.size := by omega
  have hlab : wa.heap.size < wb.heap.size := by rw [hwb]; simp
  clear hxa hya ra hba hwb hE bab
  obtain ⟨x0, x1, x2, x3, -, -, -, -⟩ := cells4 XA.out
  rw [← HWB.out]
  go_wp2_with fail
  refine (hbo.out wb _ p' c' RA.out).mono ?_
  rintro e w3 ⟨rfl, hb3⟩
  have h3 : Below w.heap.size w w3 := BA.out.trans (hb3.mono (by omega))
  have X3 := Lib.hid ((hb3.block _ (by omega)).trans XA.out)
  have Y3 := Lib.hid ((hb3.block _ (by omega)).trans YA.out)
  have E3 := Lib.hid ((hb3.block _ (by omega)).trans HE0.out)
  have R3 := Lib.hid (RA.out.below hb3)
  have B3 := Lib.hid h3
  have hs3 := hb3.size
  clear h3 hb3 x0 x1 x2 x3 RA BA XA YA HWA HWB HE0
  obtain ⟨x0, x1, x2, x3, x4, x5, x6, x7⟩ := cells4 X3.out
  obtain ⟨z0, z1, z2, z3, z4, z5, z6, z7⟩ := cells4 Y3.out
  go_wp2_with (go_at_call 33; refine (specIn_at HS.out _).mono ?_; rintro e w4 ⟨rfl, rfl⟩)
  clear x0 x1 x2 x3 x4 x5 x6 x7 z0 z1 z2 z3 z4 z5 z6 z7
  have hrow0 : w3.ownsRow (w.heap.size + 1 + 1) 34 2 (.slice (some ⟨w2.heap.size, 0, none⟩) 0 0) 0 [] := ⟨rfl, .inr ⟨w2.heap.size, 0, #[], rfl, hz2, E3.out, Nat.le_refl _, by decide, by simp, by simp⟩⟩
  have HROW0 := Lib.hid hrow0
  clear hrow0
  go_loopw [6, 7] (fun lv iv wr => ∃ (k : Nat) (p1 : Option Addr) (c1 : Nat) (vv : Value) (m : Nat), k ≤ S ∧ iv = .int .i64 (k : Int) ∧ vv = lv ∧ (ru L G H n z k).l.length = m * 2 ∧ m ≤ 40 ∧ wr.heap[w.heap.size]? = some (.cells #[.int .i64 L, .int .i64 G, .bool H, .slice p1 (ru L G H n z k).n c1] 24 (0, 0)) ∧ wr.heap[w.heap.size + 1]? = some (.cells #[.int .i64 0, .int .i64 0, .bool false, .slice none 0 0] 24 (0, 0)) ∧ (ru L G H n z k).n ≤ c1 ∧ RowNew wr (w.heap.size + 1 + 1) p1 ((ru L G H n z k).n * 3) (ru L G H n z k).z ∧ wr.ownsRow (w.heap.size + 1 + 1) 34 2 vv m ((ru L G H n z k).l.map (.int .i64)) ∧ w.heap.size + 1 + 1 ≤ wr.heap.size ∧ Below w.heap.size w wr) (fun _ iv _ => S - (intOf iv).toNat)
  case atStart => exact ⟨0, p', c', _, 0, by omega, rfl, rfl, rfl, by omega, X3.out, Y3.out, hcc, R3.out, HROW0.out, by omega, B3.out⟩
  case round =>
    clear X3 Y3 E3 R3 B3 HROW0 hbo hfr
    obtain ⟨k, p1, c1, vv, m, hk, rfl, rfl, hm, hm40, h1, h2, h3, h4, h5, h6, h7⟩ := hrel
    have hok := HP.out k
    have hln := HLEN.out k
    have hry := @ru_yes L G H n z k
    have hrn := @ru_no L G H n z k
    by_cases hks : k < S
    · obtain ⟨r, hr⟩ : ∃ r, r = ru L G H n z k := ⟨_, rfl⟩
      rw [← hr] at hm h1 h3 h4 h5 hok hln hry hrn
      clear hr HLEN
      obtain ⟨x0, x1, x2, x3, x4, x5, x6, x7⟩ := cells4 h1
      obtain ⟨g1, o1, r1, r2⟩ := h4.row
      have hn4 : r.n ≤ 40 := hok.2.2.1
      have hcl := Lib.hid (sLeave_any r.n (by omega) r.z p1 c1 g1 o1 L G H wr (r1.wide (Nat.zero_le _) (Nat.le_refl _)))
      have hk0 : (0 : Int) ≤ (k : Int) := by omega
      have hkl : (k : Int) < (S : Int) := by omega
      have hwk : IntKind.i64.wrap ((k : Int) + 1) = (k : Int) + 1 := IntWalk.i64_in _ (by omega)
      cases hl : lq L H r.n r.z with
      | true =>
        obtain ⟨e1, e2, e3, e4⟩ := lv_all hok hl
        rw [e1, e2, e3, e4] at hcl
        have HE := Lib.hid (hry hl)
        have hokS : OkP L G (r.n - 1) (shZ r.z) := by
          obtain ⟨-, q0, -⟩ := lq_yes hl
          obtain ⟨j, hj⟩ : ∃ j, r.n = j + 1 := ⟨r.n - 1, by omega⟩
          rw [hj] at hok ⊢
          exact okIt_shift hok
        have hm39 : m ≤ 39 := by
          obtain ⟨-, q0, -⟩ := lq_yes hl
          omega
        have HOS := Lib.hid hokS
        obtain ⟨u, hu⟩ : ∃ u, u = r.z 0 := ⟨_, rfl⟩
        rw [← hu] at HE hcl
        have H2 := Lib.hid h2
        have H1 := Lib.hid h1
        have H7 := Lib.hid h7
        have hlt5 : ∀ g, vv.ownBlock = some g → g < wr.heap.size := fun g hg => (h5.lt g hg).2
        have H5 := Lib.hid h5
        clear hl e1 e2 e3 e4 hok hokS hu h1 h2 h4 h5 h7 r1 r2 hln hry hrn
        go_wp2_with fail
        refine hcl.out.mono ?_
        rintro e w5 ⟨p5, c5, rfl, hc5, hrn5, hb5⟩
        have hs5 := hb5.size
        have hx5 := (hb5.block w.heap.size (by omega)).trans H1.out
        have hy5 := (hb5.block (w.heap.size + 1) (by omega)).trans H2.out
        have H55 := H5.out.kept (row := none) ⟨hb5.os, hb5.tape, hb5.output, hb5.size, fun k hk _ => hb5.block k hk⟩ (by cases hv : vv.ownBlock <;> simp)
        have X5 := Lib.hid hx5
        have Y5 := Lib.hid hy5
        have O5 := Lib.hid H55
        have B5 := Lib.hid (H7.out.trans (hb5.mono (by omega)))
        have R5 := Lib.hid hrn5
        clear hx5 hy5 H55 hrn5 hb5 H1 H2 H5 H7 x0 x1 x2 x3 x4 x5 x6 x7 hcl
        obtain ⟨w6, hw6⟩ : ∃ w6, w6 = w5.alloc (.cells #[.int .i64 L, .int .i64 G, .bool H, .slice p5 (r.n - 1) c5] 24) := ⟨_, rfl⟩
        have b56 : Below w5.heap.size w5 w6 := by rw [hw6]; exact (Below.refl _ _).alloc (Nat.le_refl _) _
        have hs6 := b56.size
        have T6 : Hid (w6.heap[w5.heap.size]? = some (.cells #[.int .i64 L, .int .i64 G, .bool H, .slice p5 (r.n - 1) c5] 24 (0, 0))) := by rw [hw6]; exact heap_new _ _ _ rfl
        have X6 := Lib.hid ((b56.block _ (by omega)).trans X5.out)
        have Y6 := Lib.hid ((b56.block _ (by omega)).trans Y5.out)
        have O6 := Lib.hid (O5.out.kept (row := none) ⟨b56.os, b56.tape, b56.output, b56.size, fun k hk _ => b56.block k hk⟩ (by cases hv : vv.ownBlock <;> simp))
        have B6 := Lib.hid (B5.out.trans (b56.mono (by omega)))
        have R6 := Lib.hid (R5.out.below b56)
        have HW6 := Lib.hid hw6
        have hl6 : w5.heap.size < w6.heap.size := by rw [hw6]; simp
        clear hw6 b56 X5 Y5 O5 B5 R5
        have hN : ∀ W7, (w6.alloc (.cells #[.int .i64 u, .int .i64 (k : Int)] 34)).grownBy W7 vv.ownBlock → (W7.heap[w5.heap.size]? = some (.cells #[.int .i64 L, .int .i64 G, .bool H, .slice p5 (r.n - 1) c5] 24 (0, 0)) ∧ W7.heap[w.heap.size]? = some (.cells #[.int .i64 L, .int .i64 G, .bool H, .slice p1 r.n c1] 24 (0, 0)) ∧ W7.heap[w.heap.size + 1]? = some (.cells #[.int .i64 0, .int .i64 0, .bool false, .slice none 0 0] 24 (0, 0)) ∧ Below w.heap.size w W7 ∧ w6.heap.size < W7.heap.size ∧ Calls Try.prog 38 #[.agg #[.int .i64 L, .int .i64 G, .bool H, .slice p5 (r.n - 1) c5]] W7 fun e w' => ∃ p' c', e = .returned (.agg #[.int .i64 L, .int .i64 G, .bool H, .slice p' (r.n - 1) c']) ∧ r.n - 1 ≤ c' ∧ RowNew w' W7.heap.size p' ((r.n - 1) * 3) (stZ L G (shZ r.z)) ∧ Below W7.heap.size W7 w') := by
          intro W7 hg
          have ha : Below w6.heap.size w6 (w6.alloc (.cells #[.int .i64 u, .int .i64 (k : Int)] 34)) := (Below.refl _ _).alloc (Nat.le_refl _) _
          have hob := O6.out.lt
          have hk7 : ∀ j, j < w6.heap.size → vv.ownBlock ≠ some j → W7.heap[j]? = w6.heap[j]? := fun j hj hne => (hg.block j (by simp; omega) (fun e => hne e.symm)).trans (ha.block j hj)
          have hs7 : w6.heap.size < W7.heap.size := by have := hg.size; simp at this; omega
          have R7 : RowNew W7 wr.heap.size p5 ((r.n - 1) * 3) (shZ r.z) := R6.out.keep (fun j h1 h2 => hk7 j h2 (fun e => by have := hlt5 j e; omega)) (by omega)
          obtain ⟨g7, o7, q1, q2⟩ := R7
          refine ⟨(hk7 _ hl6 (fun e => by have := hlt5 _ e; omega)).trans T6.out, (hk7 _ (by omega) (fun e => by have := (hob _ e).1; omega)).trans X6.out, (hk7 _ (by omega) (fun e => by have := (hob _ e).1; omega)).trans Y6.out, ?_, hs7, sStep_any (r.n - 1) (shZ r.z) p5 c5 g7 o7 L G H W7 HOS.out (q1.wide (Nat.zero_le _) (Nat.le_refl _))⟩
          exact (B6.out.trans (ha.mono (by omega))).grown hg (by simp; omega) (fun j e => by have := (hob j e).1; omega)
        have HN := Lib.hid hN
        clear hN
        go_upto_region 9 with fail
        rw [← HW6.out]
        have hO6 := O6.out
        have hlen1 : r.n - 1 ≤ c5 := hc5
        clear T6 X6 Y6 B6 R6 O6
        go_wp2_with (first
          | (at_builtin; refine wpList_append_own _ rfl _ _ 26 rfl (w.heap.size + 1 + 1) 34 i0 (.agg #[.int .i64 0, .int .i64 0]) 2 16 Try.underlying26 hi hz0 hz1 hzB rfl (by decide) _ m _ rfl (hO6.alloc _) ⟨w6.heap.size, 0, none⟩ 1 1 [.int .i64 u, .int .i64 (k : Int)] rfl rfl (by intro j u hj; match j, hj with | 0, hj => simp at hj; subst hj; simp [Addr.add] | 1, hj => simp at hj; subst hj; simp [Addr.add]) (by intro u hu; simp at hu; rcases hu with rfl | rfl <;> rfl) (by unfold maxLen; omega) (by omega) (by simp; omega) ?_; intro v7 w7 hown7 hgrow7 _; obtain ⟨T7, X7, Y7, B7, hs7, C7⟩ := HN.out w7 hgrow7; have O7 := Lib.hid hown7; have HX7 := Lib.hid X7; have HY7 := Lib.hid Y7; have HB7 := Lib.hid B7; obtain ⟨t0, t1, t2, t3, -, -, -, -⟩ := cells4 T7; clear hown7 hgrow7 X7 Y7 B7 T7)
          | (go_at_call 38; refine C7.mono ?_; rintro e w8 ⟨p8, c8, rfl, hc8, hrn8, hb8⟩; have hs8 := hb8.size; have HX8 := Lib.hid ((hb8.block w.heap.size (by omega)).trans HX7.out); obtain ⟨y0, y1, y2, y3, y4, y5, y6, y7⟩ := cells4 HX8.out; have HR8 := Lib.hid hrn8; have HB8 := Lib.hid hb8; clear hrn8 hb8 t0 t1 t2 t3 C7))
        go_roundw
        case rel =>
          have eF : ∀ q : Nat, q ≠ w.heap.size → ((((w8.setCell ⟨w.heap.size, 0, none⟩ (.int .i64 L)).setCell ⟨w.heap.size, 1, none⟩ (.int .i64 G)).setCell ⟨w.heap.size, 2, none⟩ (.bool H)).setCell ⟨w.heap.size, 3, none⟩ (.slice p8 (r.n - 1) c8)).heap[q]? = w8.heap[q]? := fun q hq => (Below.heap_setCell _ _ _ _ (by show q ≠ w.heap.size; exact hq)).trans ((Below.heap_setCell _ _ _ _ (by show q ≠ w.heap.size; exact hq)).trans ((Below.heap_setCell _ _ _ _ (by show q ≠ w.heap.size; exact hq)).trans (Below.heap_setCell _ _ _ _ (by show q ≠ w.heap.size; exact hq))))
          refine ⟨k + 1, p8, c8, v7, m + 1, by omega, by congr 1, rfl, ?_, by omega, ?_, ?_, ?_, ?_, ?_, by simp [World.setCell]; omega, ?_⟩
          · rw [HE.out]; show (_ ++ _ : List Int).length = _; rw [List.length_append, hm]; simp; omega
          · rw [HE.out]; exact blk_set (blk_set (blk_set (blk_set HX8.out _) _) _) _
          · exact (eF _ (by omega)).trans ((HB8.out.block _ (by omega)).trans HY7.out)
          · rw [HE.out]; exact hc8
          · rw [HE.out]; exact ((((HR8.out.wide (by omega)).far _ (by simp <;> omega)).far _ (by simp <;> omega)).far _ (by simp <;> omega)).far _ (by simp <;> omega)
          · rw [HE.out, List.map_append]
            have ne : v7.ownBlock ≠ some w.heap.size := fun e => by have := (O7.out.lt _ e).1; omega
            have O8 := O7.out.kept (row := none) ⟨HB8.out.os, HB8.out.tape, HB8.out.output, HB8.out.size, fun k hk _ => HB8.out.block k hk⟩ (by cases hv : v7.ownBlock <;> simp)
            exact (((O8.kept (grown_set1 _ _ _ _) (.inr ne)).kept (grown_set1 _ _ _ _) (.inr ne)).kept (grown_set1 _ _ _ _) (.inr ne)).kept (grown_set1 _ _ _ _) (.inr ne)
          · exact ((((HB7.out.trans (HB8.out.mono (by omega))).setCell (by simp) _).setCell (by simp) _).setCell (by simp) _).setCell (by simp) _
        case measure => simp only [intOf]; omega
      | false =>
        obtain ⟨e1, e2, e3, e4⟩ := lv_none hok hl
        rw [e1, e2, e3, e4] at hcl
        have HE := Lib.hid (hrn hl)
        have HOS := Lib.hid hok
        have H2 := Lib.hid h2
        have H1 := Lib.hid h1
        have H7 := Lib.hid h7
        have H5 := Lib.hid h5
        clear hl e1 e2 e3 e4 hok h1 h2 h4 h5 h7 r1 r2 hln hry hrn
        go_wp2_with fail
        refine hcl.out.mono ?_
        rintro e w5 ⟨p5, c5, rfl, hc5, hrn5, hb5⟩
        have hs5 := hb5.size
        have X5 := Lib.hid ((hb5.block w.heap.size (by omega)).trans H1.out)
        have Y5 := Lib.hid ((hb5.block (w.heap.size + 1) (by omega)).trans H2.out)
        have O5 := Lib.hid (H5.out.kept (row := none) ⟨hb5.os, hb5.tape, hb5.output, hb5.size, fun k hk _ => hb5.block k hk⟩ (by cases hv : vv.ownBlock <;> simp))
        have B5 := Lib.hid (H7.out.trans (hb5.mono (by omega)))
        have R5 := Lib.hid hrn5
        clear hrn5 hb5 H1 H2 H5 H7 x0 x1 x2 x3 x4 x5 x6 x7 hcl
        obtain ⟨w6, hw6⟩ : ∃ w6, w6 = w5.alloc (.cells #[.int .i64 L, .int .i64 G, .bool H, .slice p5 r.n c5] 24) := ⟨_, rfl⟩
        have b56 : Below w5.heap.size w5 w6 := by rw [hw6]; exact (Below.refl _ _).alloc (Nat.le_refl _) _
        have hs6 := b56.size
        have T6 : Hid (w6.heap[w5.heap.size]? = some (.cells #[.int .i64 L, .int .i64 G, .bool H, .slice p5 r.n c5] 24 (0, 0))) := by rw [hw6]; exact heap_new _ _ _ rfl
        have X6 := Lib.hid ((b56.block _ (by omega)).trans X5.out)
        have Y6 := Lib.hid ((b56.block _ (by omega)).trans Y5.out)
        have O6 := Lib.hid (O5.out.kept (row := none) ⟨b56.os, b56.tape, b56.output, b56.size, fun k hk _ => b56.block k hk⟩ (by cases hv : vv.ownBlock <;> simp))
        have B6 := Lib.hid (B5.out.trans (b56.mono (by omega)))
        have hcs : Calls Try.prog 38 #[.agg #[.int .i64 L, .int .i64 G, .bool H, .slice p5 r.n c5]] w6 fun e w' => ∃ p' c', e = .returned (.agg #[.int .i64 L, .int .i64 G, .bool H, .slice p' r.n c']) ∧ r.n ≤ c' ∧ RowNew w' w6.heap.size p' (r.n * 3) (stZ L G r.z) ∧ Below w6.heap.size w6 w' := by
          obtain ⟨g7, o7, q1, q2⟩ := R5.out.below b56
          exact sStep_any r.n r.z p5 c5 g7 o7 L G H w6 HOS.out (q1.wide (Nat.zero_le _) (Nat.le_refl _))
        have HCS := Lib.hid hcs
        have HW6 := Lib.hid hw6
        clear hw6 b56 X5 Y5 O5 B5 R5 hcs
        go_upto_region 9 with fail
        rw [← HW6.out]
        obtain ⟨t0, t1, t2, t3, -, -, -, -⟩ := cells4 T6.out
        clear T6
        go_wp2_with (go_at_call 38; refine HCS.out.mono ?_; rintro e w8 ⟨p8, c8, rfl, hc8, hrn8, hb8⟩; have hs8 := hb8.size; have HX8 := Lib.hid ((hb8.block w.heap.size (by omega)).trans X6.out); obtain ⟨y0, y1, y2, y3, y4, y5, y6, y7⟩ := cells4 HX8.out; have HR8 := Lib.hid hrn8; have HB8 := Lib.hid hb8; clear hrn8 hb8 t0 t1 t2 t3)
        go_roundw
        case rel =>
          have eF : ∀ q : Nat, q ≠ w.heap.size → ((((w8.setCell ⟨w.heap.size, 0, none⟩ (.int .i64 L)).setCell ⟨w.heap.size, 1, none⟩ (.int .i64 G)).setCell ⟨w.heap.size, 2, none⟩ (.bool H)).setCell ⟨w.heap.size, 3, none⟩ (.slice p8 r.n c8)).heap[q]? = w8.heap[q]? := fun q hq => (Below.heap_setCell _ _ _ _ (by show q ≠ w.heap.size; exact hq)).trans ((Below.heap_setCell _ _ _ _ (by show q ≠ w.heap.size; exact hq)).trans ((Below.heap_setCell _ _ _ _ (by show q ≠ w.heap.size; exact hq)).trans (Below.heap_setCell _ _ _ _ (by show q ≠ w.heap.size; exact hq))))
          refine ⟨k + 1, p8, c8, vv, m, by omega, by congr 1, rfl, ?_, hm40, ?_, ?_, ?_, ?_, ?_, by simp [World.setCell]; omega, ?_⟩
          · rw [HE.out]; exact hm
          · rw [HE.out]; exact blk_set (blk_set (blk_set (blk_set HX8.out _) _) _) _
          · exact (eF _ (by omega)).trans ((HB8.out.block _ (by omega)).trans Y6.out)
          · rw [HE.out]; exact hc8
          · rw [HE.out]; exact ((((HR8.out.wide (by omega)).far _ (by simp <;> omega)).far _ (by simp <;> omega)).far _ (by simp <;> omega)).far _ (by simp <;> omega)
          · rw [HE.out]
            have ne : vv.ownBlock ≠ some w.heap.size := fun e => by have := (O6.out.lt _ e).1; omega
            have O8 := O6.out.kept (row := none) ⟨HB8.out.os, HB8.out.tape, HB8.out.output, HB8.out.size, fun k hk _ => HB8.out.block k hk⟩ (by cases hv : vv.ownBlock <;> simp)
            exact (((O8.kept (grown_set1 _ _ _ _) (.inr ne)).kept (grown_set1 _ _ _ _) (.inr ne)).kept (grown_set1 _ _ _ _) (.inr ne)).kept (grown_set1 _ _ _ _) (.inr ne)
          · exact ((((B6.out.trans (HB8.out.mono (by omega))).setCell (by simp) _).setCell (by simp) _).setCell (by simp) _).setCell (by simp) _
        case measure => simp only [intOf]; omega
    · obtain rfl : k = S := by omega
      clear HLEN hry hrn hok HP
      obtain rfl : m = n - (ru L G H n z k).n := by omega
      obtain ⟨x0, x1, x2, x3, x4, x5, x6, x7⟩ := cells4 h1
      obtain ⟨z0, z1, z2, z3, z4, z5, z6, z7⟩ := cells4 h2
      have H4 := Lib.hid h4
      have H5 := Lib.hid h5
      have H7 := Lib.hid h7
      clear h1 h2 h4 h5 h7
      go_wp2_with fail
      refine bodyPost_ret (v := .tuple #[.agg #[.int .i64 L, .int .i64 G, .bool H, .slice p1 (ru L G H n z k).n c1], vv]) (by simp [results, Try.results10, go_sem, z0, z1, z2, z3]) rfl ⟨p1, c1, vv, rfl, ?_, ?_, ?_⟩
      · obtain ⟨gg, oo, q1, q2⟩ := H4.out
        exact ⟨p1, c1, gg, oo, rfl, h3, ((((q1.far _ (.inl (by simp <;> omega))).far _ (.inl (by simp <;> omega))).far _ (.inl (by simp <;> omega))).far _ (.inl (by simp <;> omega))).wide (by omega) (by simp [World.setCell]), (((q2.set _ _).set _ _).set _ _).set _ _⟩
      · have ne : vv.ownBlock ≠ some (w.heap.size + 1) := fun e => by have := (H5.out.lt _ e).1; omega
        have O8 := (((H5.out.kept (grown_set1 wr (w.heap.size + 1) 0 (.int .i64 L)) (.inr ne)).kept (grown_set1 _ (w.heap.size + 1) 1 (.int .i64 G)) (.inr ne)).kept (grown_set1 _ (w.heap.size + 1) 2 (.bool H)) (.inr ne)).kept (grown_set1 _ (w.heap.size + 1) 3 (.slice p1 (ru L G H n z k).n c1)) (.inr ne)
        have hlr : (ru L G H n z k).l.length = (n - (ru L G H n z k).n) * 2 := hm
        exact (Own.of_own (z := fun j => (ru L G H n z k).l.getD j 0) O8 (fun j hj => by rw [List.getElem?_map, List.getElem?_eq_getElem (by omega)]; simp [List.getD_eq_getElem?_getD, List.getElem?_eq_getElem (show j < (ru L G H n z k).l.length by omega)])).wide (by omega) (Nat.le_refl _)
      · exact (((H7.out.setCell (by simp <;> omega) _).setCell (by simp <;> omega) _).setCell (by simp <;> omega) _).setCell (by simp <;> omega) _

end Go.Proofs.Ytlklggkkkbamhaa
