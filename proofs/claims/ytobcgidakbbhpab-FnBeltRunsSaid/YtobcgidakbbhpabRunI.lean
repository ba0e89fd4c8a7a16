/- What the program's Run returns on a valid belt. -/
import Derived.Test.YtobcgidakbbhpabRunRange
import Derived.Test.YtobcgidakbbhpabBeltOkI
import Derived.Test.YtobcgidakbbhpabWorkOn
import Derived.Test.YtobcgidakbbhpabOwnV
namespace Go.Proofs.Ytobcgidakbbhpab
open Go.RowKit Go.Shelf
set_option linter.unusedVariables false
attribute [local go_sem] Oper.semAt_some

theorem infoExitR : (Try.prog.info? 42).map (fun i => (i.zero, i.size, i.bytes)) = some (some (.agg #[.int .i64 0, .int .i64 0]), 2, 16) := by kernel_rfl
theorem cellsExitR : Try.prog.cellsOf 42 = 2 := by kernel_rfl
theorem cellsWorkR : Try.prog.cellsOf 96 = 4 := by kernel_rfl

theorem cells2' {w : World} {k : Nat} {a b : Value} {t : TypeId} (h : w.heap[k]? = some (.cells #[a, b] t (0, 0))) : w.cell? ⟨k, 0, none⟩ = some a ∧ w.cell? ⟨k, 1, none⟩ = some b ∧ True := ⟨by simp [World.cell?, h], by simp [World.cell?, h], trivial⟩

set_option maxRecDepth 100000 in
set_option maxHeartbeats 4000000 in
theorem iRun_ok (n : Nat) (z : Nat → Int) (p : Option Addr) (c g o : Nat) (L G : Int) (H : Bool) (S : Nat) (hS : S ≤ 2000) (w : World) (h : FlatAt w 0 w.heap.size p g o (n * 3) (fun j => .int .i64 (z j))) (hc : n ≤ c) (hok : OkP L G n z) :
    Calls Try.prog 18 #[.agg #[.int .i64 L, .int .i64 G, .bool H, .slice p n c], .int .i64 (S : Int)] w fun e w' => ∃ p' c' v M, e = .returned (.tuple #[.agg #[.int .i64 L, .int .i64 G, .bool H, .slice p' (ru L G H n z S).n c'], v]) ∧ w.heap.size ≤ M ∧ M ≤ w'.heap.size ∧ Own w' w.heap.size M (.slice p' (ru L G H n z S).n c') (ru L G H n z S).n ((ru L G H n z S).n * 3) (ru L G H n z S).z ∧ Own w' M w'.heap.size v (n - (ru L G H n z S).n) ((n - (ru L G H n z S).n) * 2) (fun j => (ru L G H n z S).l.getD j 0) ∧ Below w.heap.size w w' := by
  have hn40 : n ≤ 40 := hok.2.2.1
  obtain ⟨i0, hi, hz0, hz1, hz2⟩ := info_parts infoExitR
  have c2 := cellsExitR
  have c4 := cellsWorkR
  have hwo := Lib.hid (fun W (hb : Below w.heap.size w W) => workOn_any n (by omega) z p c g o L G H W ((h.below hb (Nat.le_refl _)).wide (Nat.zero_le _) hb.size))
  have hbo := Lib.hid (fun W (hb : Below w.heap.size w W) => iBeltOk_any n (by unfold maxLen; omega) z p c g o L G H W ((h.below hb (Nat.le_refl _)).wide (Nat.zero_le _) hb.size) hc)
  simp only [okB_yes hok] at hbo
  have HOK := Lib.hid hok
  have hin : inB 0 2000 (S : Int) = true := by unfold inB; simp; omega
  clear h hok
  refine (callsIn_wide (n := 9)).1 ?_
  refine callsIn_of_wp_marks Try.func18 rfl trivial ?_ rfl
  simp only [Try.ntmps18, List.size_toArray, List.length_cons, List.length_nil, Nat.reduceAdd, Nat.reduceSub, Array.replicate_succ, Array.replicate_zero, List.push_toArray, List.append_toArray, List.nil_append, List.cons_append]
  gi_wp2_with (first
    | (refine ⟨trivial, ?_⟩; gi_at_call 79; refine (callsIn_wide.2 (hwo.out _ (by repeat (first | exact Below.refl _ _ | refine Below.alloc ?_ (by simp <;> omega) _)))).mono ?_; rintro e w2 ⟨gw, p', c', rfl, hcc, hgw, hwb, hown, hne, hb2⟩; have hw2 : Below w.heap.size w w2 := below_via hb2 (by repeat (first | exact Below.refl _ _ | refine Below.alloc ?_ (by simp <;> omega) _)) (by simp <;> omega); have hx2 : w2.heap[w.heap.size]? = _ := (hb2.block w.heap.size (by simp <;> omega)).trans ((heap_old _ _ _ (by simp)).trans (heap_new _ _ _ rfl)); have hy2 : w2.heap[w.heap.size + 1]? = _ := (hb2.block (w.heap.size + 1) (by simp <;> omega)).trans (heap_new _ _ _ (by simp)); obtain ⟨x0, x1, x2, x3, -, -, -, -⟩ := cells4 hx2; have hz2' : w.heap.size + 1 + 1 ≤ w2.heap.size := (by have := hb2.size; simpa using this); have HY2 := Lib.hid hy2; have HWB := Lib.hid hwb; have HOWN := Lib.hid hown; have HW2 := Lib.hid hw2; have HNE := Lib.hid hne; have hwl := hwb.lt; clear hx2 hy2 hwb hown hb2 hw2 hne hwo)
    | (refine ⟨trivial, ?_⟩; gi_at_call 28; refine (callsIn_wide.2 (hbo.out _ HW2.out)).mono ?_; rintro e w3 ⟨rfl, hb3⟩; have hy3 := (hb3.block (w.heap.size + 1) (by omega)).trans HY2.out; have hw3 : Below w.heap.size w w3 := HW2.out.trans (hb3.mono (by omega)); have hs3 := hb3.size; have HY3 := Lib.hid hy3; have HW3 := Lib.hid hw3; have HB3 := Lib.hid hb3; clear hy3 hw3 hb3 x0 x1 x2 x3 hbo)
    | (refine ⟨trivial, ?_⟩; gi_at_call 80; refine (callsIn_wide.2 (within_eq hin _)).mono ?_; rintro e w' ⟨rfl, rfl⟩)
    | (refine ⟨trivial, ?_⟩; gi_at_call 81; refine (callsIn_wide.2 (exits_any _ _ _)).mono ?_; rintro e w' ⟨rfl, rfl⟩))
  obtain ⟨W4, hW4⟩ : ∃ W4, W4 = (((w'.alloc (.cells #[] 42)).alloc (.cells #[.slice (some ⟨w'.heap.size, 0, none⟩) 0 0] 29)).alloc (.cells #[.pointer (some ⟨gw, 0, none⟩)] 94)).alloc (.cells #[.int .i64 (S : Int)] 3) := ⟨_, rfl⟩
  have hs4 : W4.heap.size = w'.heap.size + 4 := by rw [hW4]; simp
  have hb4 : Below w'.heap.size w' W4 := by rw [hW4]; repeat (first | exact Below.refl _ _ | refine Below.alloc ?_ (by simp <;> omega) _)
  have hR4 : RunAt W4 gw (w.heap.size + 2) w2.heap.size L G H n z := by
    obtain ⟨g', f1, f2⟩ := HOWN.out.flat
    have hw24 : Below w2.heap.size w2 W4 := HB3.out.trans (hb4.mono hs3)
    have f1' := (f1.wide (show w.heap.size + 2 ≤ _ by simp) (Nat.le_refl _)).below hw24 (Nat.le_refl _)
    refine ⟨p', c', g', 0, HWB.out.below hw24 hwl, hcc, HOWN.out.capMax, f1', f2.below hw24 (fun hm => (f1.1 hm).2.2), fun h0 e => ?_⟩
    obtain ⟨e1, -, -⟩ := f1.1 (by omega)
    have := HNE.out
    rw [e1, e] at this
    exact this rfl
  have hI4 : RI w w'.heap.size [] W4 := by
    refine ⟨.slice (some ⟨w'.heap.size, 0, none⟩) 0 0, 0, rfl, ?_, ?_, (hb4.block _ (by omega)).trans HY3.out, HW3.out.trans (hb4.mono (by omega)), ⟨_, 94, by decide, by rw [hW4]; exact (heap_old _ _ _ (by simp)).trans (heap_new _ _ _ (by simp))⟩, ⟨_, 3, by decide, by rw [hW4]; exact heap_new _ _ _ (by simp)⟩⟩
    · rw [hW4]; exact (heap_old _ _ _ (by simp)).trans ((heap_old _ _ _ (by simp)).trans (heap_new _ _ _ (by simp)))
    · refine ⟨rfl, .inr ⟨w'.heap.size, 0, #[], rfl, Nat.le_refl _, ?_, Nat.le_refl _, by decide, by simp, by simp⟩⟩
      rw [hW4]; exact (heap_old _ _ _ (by simp; omega)).trans ((heap_old _ _ _ (by simp; omega)).trans ((heap_old _ _ _ (by simp)).trans (heap_new _ _ _ rfl)))
  have k1 : W4.cell? ⟨w'.heap.size + 3, 0, none⟩ = some (.int .i64 (S : Int)) := by rw [cell_of_row _ _ _ _ _ _ (show W4.heap[w'.heap.size + 3]? = some (.cells #[.int .i64 (S : Int)] 3 (0, 0)) by rw [hW4]; exact heap_new _ _ _ (by simp))]; rfl
  have k2 : W4.cell? ⟨w'.heap.size + 2, 0, none⟩ = some (.pointer (some ⟨gw, 0, none⟩)) := by rw [cell_of_row _ _ _ _ _ _ (show W4.heap[w'.heap.size + 2]? = some (.cells #[.pointer (some ⟨gw, 0, none⟩)] 94 (0, 0)) by rw [hW4]; exact (heap_old _ _ _ (by simp)).trans (heap_new _ _ _ (by simp)))]; rfl
  rw [← hW4]
  have hgw2 : w.heap.size + 2 ≤ gw := by simpa using hgw
  clear hW4 hb4 HB3 HY3 HWB HOWN HW2 HNE HY2 HW3
  refine run_range (a1 := fun x s Bx => { tmps := #[.agg #[.int .i64 L, .int .i64 G, .bool H, .slice p n c], .int .i64 (S : Int), .pointer (some ⟨w.heap.size, 0, none⟩), undef, .pointer (some ⟨w.heap.size + 1, 0, none⟩), .slice none 0 0, .pointer (some ⟨gw, 0, none⟩), .pointer (some ⟨w'.heap.size + 1, 0, none⟩), .pointer (some ⟨Bx, 0, none⟩), .agg #[.int .i64 L, .int .i64 G, .bool H, .slice p n c], .pointer (some ⟨gw, 0, none⟩), .agg #[.int .i64 L, .int .i64 G, .bool H, .slice p n c], .bool true, .bool false, .bool false, .int .i64 (S : Int), .bool true, .bool false, .bool false, undef, undef, undef, .slice (some ⟨w'.heap.size, 0, none⟩) 0 0, .pointer (some ⟨gw, 0, none⟩), .int .i64 (S : Int), .func (.func 120) #[] #[.pointer (some ⟨w'.heap.size + 1 + 1 + 1, 0, none⟩), .pointer (some ⟨w'.heap.size + 1 + 1, 0, none⟩)], .agg #[.int .i64 x, .int .i64 s], undef, undef, undef, undef, undef, undef, undef, undef], defers := [] }) (E0 := w'.heap.size) (w := w) (S := S) (L := L) (G := G) (H := H) (n := n) (z := z) (gw := gw) (w2s := w2.heap.size) rfl rfl hs4 ⟨hgw2, hwl⟩ hs3 hS HOK.out k1 k2 hR4 hI4 ?assign ?body ?done
  case assign =>
    intro l x s W K hK
    gi_wp2
    exact hK
  case body =>
    intro l lst x s W Bx hlen hI hBx hx
    obtain ⟨v, k, hk, hv, hrow, hres, hbw, ⟨cs, t, ht1, h6⟩, ⟨cs', t', ht2, h7⟩⟩ := hI
    have hc := hv.cell
    obtain ⟨x0, x1, -⟩ := cells2' hx
    have hl := hv.lt
    have hE0 : w'.heap.size ≤ W.heap.size := by omega
    have hn2 := own_ne hrow h6 ht1
    have hn3 := own_ne hrow h7 ht2
    have HN2 := Lib.hid hn2
    have HN3 := Lib.hid hn3
    have H6 := Lib.hid h6
    have H7 := Lib.hid h7
    have HRES := Lib.hid hres
    have HBW := Lib.hid hbw
    clear hx hn2 hn3 h6 h7 hres hbw
    gi_wp2_with (gi_at_builtin; refine wpListIn_append_own _ rfl _ _ 29 rfl w'.heap.size 42 i0 (.agg #[.int .i64 0, .int .i64 0]) 2 16 Try.underlying29 hi hz0 hz1 hz2 rfl (by decide) _ k _ rfl (hrow.alloc _) ⟨W.heap.size, 0, none⟩ 1 1 [.int .i64 x, .int .i64 s] rfl rfl (by intro j u hj; match j, hj with | 0, hj => simp at hj; subst hj; simp [Addr.add] | 1, hj => simp at hj; subst hj; simp [Addr.add]) (by intro u hu; simp at hu; rcases hu with rfl | rfl <;> rfl) (by unfold maxLen; omega) (by omega) (by simp; omega) ?_; intro v' w1 hown' hgrow _; obtain ⟨g', cap', rfl⟩ := ownsRow_succ hown'; obtain ⟨hv1, hv2, hr2, hk2, hb2⟩ := hv.appended (by decide) hrow hE0 (by omega) hown' hgrow; have hc1 := hv1.cell; have hf1 := hv1.frozen; have HV2 := Lib.hid hv2; have HR2 := Lib.hid hr2; have HK2 := Lib.hid hk2; have HB2 := Lib.hid hb2; have HGR := Lib.hid hgrow; clear hv2 hr2 hk2 hb2 hown' hgrow)
    have far : ∀ j, j < W.heap.size → j ≠ w'.heap.size + 1 → (v.ownBlock ≠ some j) → (w1.setCell ⟨w'.heap.size + 1, 0, none⟩ (.slice (some ⟨g', 0, none⟩) (k + 1) cap')).heap[j]? = W.heap[j]? := fun j hj hne hno => (Below.heap_setCell _ _ _ _ (by show j ≠ w'.heap.size + 1; exact hne)).trans ((HGR.out.block j (by simp; omega) (fun e => hno e.symm)).trans (heap_old _ _ _ hj))
    refine ⟨⟨_, k + 1, by rw [List.length_append, hk]; simp; omega, HV2.out, by rw [List.map_append]; exact HR2.out, (HB2.out.block _ (by omega)).trans HRES.out, HBW.out.trans (HB2.out.mono (by omega)), ⟨_, _, ht1, (far _ (Array.getElem?_eq_some_iff.1 H6.out).1 (by omega) HN2.out).trans H6.out⟩, ⟨_, _, ht2, (far _ (Array.getElem?_eq_some_iff.1 H7.out).1 (by omega) HN3.out).trans H7.out⟩⟩, HK2.out, ⟨HB2.out.size, fun j hj hr => ?_⟩⟩
    rcases hr with hr | hr
    · exact HB2.out.block j hr
    · have : j = w'.heap.size + 2 ∨ j = w'.heap.size + 3 := by omega
      rcases this with rfl | rfl
      · exact far _ (Array.getElem?_eq_some_iff.1 H6.out).1 (by omega) HN2.out
      · exact far _ (Array.getElem?_eq_some_iff.1 H7.out).1 (by omega) HN3.out
  case done =>
    intro W' hI hR hK
    obtain ⟨v, k, hk, hv, hrow, hres, hbw, -, -⟩ := hI
    obtain ⟨pp, cc, gg, oo, r1, r2, r3, r4, r5, r6⟩ := hR
    obtain ⟨q0, q1, q2, q3, -⟩ := r1.cells
    have hc := hv.cell
    obtain ⟨y0, y1, y2, y3, f0, f1, f2, f3⟩ := cells4 hres
    gi_wp2
    refine wpIn_wide.2 ?_
    go_region
    all_goals
      gi_wp2
      obtain ⟨Wz, hWz⟩ : ∃ Wz, Wz = ((((W'.setCell ⟨w.heap.size + 1, 0, none⟩ (.int .i64 L)).setCell ⟨w.heap.size + 1, 1, none⟩ (.int .i64 G)).setCell ⟨w.heap.size + 1, 2, none⟩ (.bool H)).setCell ⟨w.heap.size + 1, 3, none⟩ (.slice pp (ru L G H n z S).n cc)).drew := ⟨_, rfl⟩
      have hfar : ∀ j, j ≠ w.heap.size + 1 → Wz.heap[j]? = W'.heap[j]? := fun j hj => by
        rw [hWz]
        exact (Below.heap_setCell _ _ _ _ (by show j ≠ w.heap.size + 1; exact hj)).trans ((Below.heap_setCell _ _ _ _ (by show j ≠ w.heap.size + 1; exact hj)).trans ((Below.heap_setCell _ _ _ _ (by show j ≠ w.heap.size + 1; exact hj)).trans (Below.heap_setCell _ _ _ _ (by show j ≠ w.heap.size + 1; exact hj))))
      have hsz : Wz.heap.size = W'.heap.size := by rw [hWz]; show Array.size _ = _; simp [World.setCell]
      have hres : Wz.heap[w.heap.size + 1]? = some (.cells #[.int .i64 L, .int .i64 G, .bool H, .slice pp (ru L G H n z S).n cc] 28 (0, 0)) := by
        rw [hWz]
        exact blk_set (blk_set (blk_set (blk_set hres _) _) _) _
      have hbz : Below w.heap.size w Wz := by rw [hWz]; exact ((((hbw.setCell (by show _ ≤ w.heap.size + 1; omega) _).setCell (by show _ ≤ w.heap.size + 1; omega) _).setCell (by show _ ≤ w.heap.size + 1; omega) _).setCell (by show _ ≤ w.heap.size + 1; omega) _).drew
      have hKz : Wz.heap[w'.heap.size + 4]? = some (.deferred (some [])) := (hfar _ (by omega)).trans hK
      have hKl := (Array.getElem?_eq_some_iff.1 hKz).1
      rw [← hWz]
      refine ⟨by simp, .inl ⟨_, _, rfl, run_takeDeferred hKz, ?_⟩⟩
      obtain ⟨Wy, hWy⟩ : ∃ Wy, Wy = Wz.putObj (w'.heap.size + 4) (.deferred none) := ⟨_, rfl⟩
      have hgy := grownBy_putObj' Wz (w'.heap.size + 4) (.deferred none)
      rw [← hWy] at hgy ⊢
      have hres' := (hgy.block _ (by omega) (by intro e; injection e with e; omega)).trans hres
      obtain ⟨e0, e1, e2, e3, -, -, -, -⟩ := cells4 hres'
      have hlen := (ru_len (L := L) (G := G) (H := H) (n := n) (z := z) S)
      obtain rfl : k = n - (ru L G H n z S).n := by have := hlen.2; omega
      refine ⟨.tuple #[.agg #[.int .i64 L, .int .i64 G, .bool H, .slice pp (ru L G H n z S).n cc], v], by simp [results, Try.results18, go_sem, e0, e1, e2, e3], pp, cc, v, w2.heap.size, rfl, by omega, by have := hgy.size; omega, ?_, ?_, ?_⟩
      · have hkk : ∀ k, w.heap.size + 2 ≤ k → k < w2.heap.size → Wy.heap[k]? = W'.heap[k]? := fun k h1 h2 => (hgy.block k (by omega) (by intro e; injection e with e; omega)).trans (hfar k (by omega))
        exact ⟨pp, cc, gg, oo, rfl, r2, (r4.keep hkk).wide (by omega) (Nat.le_refl _), fun j hj => (World.frozen?_of_block (a := ⟨gg, oo + j, none⟩) (hkk gg (r4.1 (by omega)).2.1 (r4.1 (by omega)).2.2)).trans (r5 j hj)⟩
      · have hrow' : Wy.ownsRow w'.heap.size 42 2 v (n - (ru L G H n z S).n) ((ru L G H n z S).l.map (.int .i64)) := by
          refine owns_far hrow (fun j h1 h2 h3 => ?_)
          have hj := hfar j (by omega)
          refine (hgy.block j (by omega) ?_).trans hj
          intro e
          injection e with e
          obtain ⟨o9, a9, b9⟩ := h3
          rw [← hj, e, hKz] at a9
          injection a9 with a9
          rw [← a9] at b9
          cases b9
        exact (Own.of_own (z := fun j => (ru L G H n z S).l.getD j 0) hrow' (fun j hj => by rw [List.getElem?_map, List.getElem?_eq_getElem (by omega)]; simp [List.getD_eq_getElem?_getD, List.getElem?_eq_getElem (show j < (ru L G H n z S).l.length by omega)])).wide (by omega) (Nat.le_refl _)
      · exact hbz.grown hgy hbz.size (fun k hk => by injection hk with hk; omega)

end Go.Proofs.Ytobcgidakbbhpab
