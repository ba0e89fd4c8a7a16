/- What DrawScreen and DrawPlaces hand out. -/
import Derived.Test.YtkdlhapbbnggoabDrawScr
import Derived.OwnWalk
import Derived.Laws.MakeOwn
import Derived.StillTailTactics
import Derived.Deep.AppendLies
namespace Go.Proofs.Ytkdlhapbbnggoab
open Go.RowKit
set_option linter.unusedVariables false

theorem Code.later {B n : Nat} {w w' : World} {p : Option Addr} {gc oc : Nat} (h : Code B n w p gc oc) (hb : Below w.heap.size w w') (hB : B ≤ w.heap.size) : Code B n w' p gc oc :=
  ⟨h.1, fun j hj => by
    obtain ⟨x, hx, hc⟩ := h.2 j hj
    exact ⟨x, hx, (hb.cell (p := ⟨gc, oc + j, none⟩) (by have := (h.1 (by omega)).2; show gc < _; omega)).trans hc⟩⟩
theorem below_cur {w w1 w2 : World} {g : Nat} (h : Below w.heap.size w w1) (hg : w1.grownBy w2 (some g)) (hBg : w.heap.size ≤ g) : Below w.heap.size w w2 :=
  h.trans (⟨hg.os, hg.tape, hg.output, hg.size, fun k hk => hg.block k (by have := h.size; omega) (by intro e; injection e with e; omega)⟩ : Below w.heap.size w1 w2)
theorem Cu.drewn {B n : Nat} {p : Option Addr} {cap gc oc : Nat} {w : World} {g : Nat} (h : Cu B n p cap gc oc w g) : Cu B n p cap gc oc w.drew g := h.kept rfl (fun _ _ => rfl)

set_option maxRecDepth 100000 in
set_option maxHeartbeats 4000000 in
theorem DrawScreen_any {n : Nat} {p : Option Addr} {cap gc oc : Nat} {w0 w : World} (hn : n ≤ 1048576) (hb0 : Below w0.heap.size w0 w) (hC : Code w0.heap.size n w0 p gc oc) :
    Calls Try.prog 51 #[.slice p n cap] w fun e w' => ∃ (x y z L S V : Int) (k : Nat), (1 ≤ x ∧ x ≤ 6) ∧ (1 ≤ y ∧ y ≤ 20) ∧ (1 ≤ z ∧ z ≤ 30) ∧ ScP L S V ∧ S ≤ 99 ∧ e = .returned (.tuple #[.agg #[.slice (some ⟨k, 0, none⟩) 3 3], .agg #[.int .i64 L, .int .i64 S, .int .i64 V]]) ∧ w'.heap[k]? = some (.cells #[.int .i64 x, .int .i64 y, .int .i64 z] 3 (0, 0)) ∧ Below w.heap.size w w' := by
  have HB0 := Lib.hid hb0
  have hsw : w0.heap.size ≤ w.heap.size := hb0.size
  have HC := Lib.hid hC
  clear hC hb0
  go_enter Try.func51, Try.ntmps51
  go_wp2_with fail
  obtain ⟨w1, hw1⟩ : ∃ q, q = (w.alloc (.cells #[.slice none 0 0] 69)).alloc (.cells #[.int .i64 0, .int .i64 0, .int .i64 0] 71) := ⟨_, rfl⟩
  have hb1 : Below w.heap.size w w1 := by rw [hw1]; exact ((Below.refl _ _).alloc (Nat.le_refl _) _).alloc (by simp) _
  have P1 : Hid (w1.heap[w.heap.size]? = some (.cells #[.slice none 0 0] 69 (0, 0))) := by rw [hw1]; exact (heap_old _ _ _ (by simp)).trans (heap_new _ _ _ rfl)
  have S1 : Hid (w1.heap[w.heap.size + 1]? = some (.cells #[.int .i64 0, .int .i64 0, .int .i64 0] 71 (0, 0))) := by rw [hw1]; exact heap_new _ _ _ (by simp)
  rw [← hw1]
  clear hw1
  have HB1 := Lib.hid hb1
  refine (new_any hn (Nat.le_trans hsw hb1.size) (HC.out.later (HB0.out.trans (hb1.mono hsw)) (Nat.le_refl _))).mono ?_
  rintro e w2 ⟨g, rfl, hc2, hb2, hg2⟩
  have C2 := Lib.hid hc2
  have HB2 := Lib.hid (hb1.trans (hb2.mono hb1.size))
  have P2 := Lib.hid (blk_later P1.out hb2)
  have S2 := Lib.hid (blk_later S1.out hb2)
  have hgw : w.heap.size + 1 < g := by have := blk_lt S1.out; omega
  clear hc2 hb2 hb1
  go_wp2_with fail
  refine (l04Policy_any hn C2.out).mono ?_
  rintro e w3 ⟨x, y, z, k, hx, hy, hz, rfl, hk, hK, hc3, hg3⟩
  have K3 := Lib.hid hK
  have C3 := Lib.hid hc3
  have HB3 := Lib.hid (below_cur HB2.out hg3 (by omega))
  have P3 := Lib.hid (blk_grown P2.out hg3 (by omega))
  have S3 := Lib.hid (blk_grown S2.out hg3 (by omega))
  have hk2 : w.heap.size + 1 < k := by have := blk_lt S2.out; omega
  have hkg : k ≠ g := by have := C2.out.lt; omega
  clear hK hc3 hg3
  go_wp2_with fail
  obtain ⟨w4, hw4⟩ : ∃ q, q = w3.alloc (.cells #[.slice (some ⟨k, 0, none⟩) 3 3] 69) := ⟨_, rfl⟩
  have b4 : Below w3.heap.size w3 w4 := by rw [hw4]; exact (Below.refl _ _).alloc (Nat.le_refl _) _
  have T4 : Hid (w4.heap[w3.heap.size]? = some (.cells #[.slice (some ⟨k, 0, none⟩) 3 3] 69 (0, 0))) := by rw [hw4]; exact heap_new _ _ _ rfl
  rw [← hw4]
  clear hw4
  have C4 := Lib.hid (C3.out.below b4)
  have K4 := Lib.hid (blk_later K3.out b4)
  have HB4 := Lib.hid (HB3.out.trans (b4.mono HB3.out.size))
  have P4 := Lib.hid (blk_later P3.out b4)
  have S4 := Lib.hid (blk_later S3.out b4)
  have hTg : w3.heap.size ≠ g := by have := C3.out.lt; omega
  clear b4
  obtain ⟨t0, -⟩ := cells1 T4.out
  have hT1 : w3.heap.size ≠ w.heap.size := by have := blk_lt P3.out; omega
  have hT2 : w3.heap.size ≠ w.heap.size + 1 := by have := blk_lt S3.out; omega
  have hne1 : w.heap.size ≠ w.heap.size + 1 := by omega
  have hne2 : w.heap.size + 1 ≠ w.heap.size := by omega
  have hT1' : w.heap.size ≠ w3.heap.size := fun h => hT1 h.symm
  have hT2' : w.heap.size + 1 ≠ w3.heap.size := fun h => hT2 h.symm
  go_region_held3 (fun K => K.cell? ⟨w3.heap.size, 0, none⟩ = some (.slice (some ⟨k, 0, none⟩) 3 3))
    (first | exact t0 | exact hkeep | go_keep)
    (first | (go_at_call 95; (refine (l04Screen_any hn C4.out.drewn).mono ?_); rintro e w6 ⟨L, S, V, hs, hs99, rfl, hc6, hg6⟩; have K6 := Lib.hid (blk_grown (w := w4.drew) K4.out hg6 hkg); have HB6 := Lib.hid (below_cur HB4.out.drew hg6 (by omega)); have P6 := Lib.hid (blk_grown (w := w4.drew) P4.out hg6 (by omega)); have S6 := Lib.hid (blk_grown (w := w4.drew) S4.out hg6 (by omega)); have hkeep := (cells1 (blk_grown (w := w4.drew) T4.out hg6 hTg)).1; clear hc6 hg6; obtain ⟨p0, p1⟩ := cells1 P6.out; obtain ⟨r0, r1, r2, q0, q1, q2⟩ := cells3 S6.out))
  all_goals
    go_wp2_with fail
    first
      | (have PP := blk_set (o := 0) P6.out (.slice (some ⟨k, 0, none⟩) 3 3)
         have SS := (blk_far (w := w6) (g := w.heap.size + 1) (q := ⟨w.heap.size, 0, none⟩) (u := .slice (some ⟨k, 0, none⟩) 3 3) hne1).trans S6.out
         refine bodyPost_ret (v := .tuple #[.agg #[.slice (some ⟨k, 0, none⟩) 3 3], .agg #[.int .i64 L, .int .i64 S, .int .i64 V]]) (by obtain ⟨y0, y1, y2⟩ := cells_res SS (.int .i64 L) (.int .i64 S) (.int .i64 V); have y3 := (cells1 PP).1; simp [results, Try.results51, go_sem, y0, y1, y2, y3]) rfl ⟨x, y, z, L, S, V, k, hx, hy, hz, hs, hs99, rfl, (blk_far (by show w.heap.size + 1 ≠ k; omega)).trans ((blk_far (by show w.heap.size + 1 ≠ k; omega)).trans ((blk_far (by show w.heap.size + 1 ≠ k; omega)).trans ((blk_far (by show w.heap.size ≠ k; omega)).trans K6.out))), (((HB6.out.setCell (Nat.le_refl _) _).setCell (by show w.heap.size ≤ w.heap.size + 1; omega) _).setCell (by show w.heap.size ≤ w.heap.size + 1; omega) _).setCell (by show w.heap.size ≤ w.heap.size + 1; omega) _⟩)
      | (have SS := blk_set3 S6.out (.int .i64 L) (.int .i64 S) (.int .i64 V)
         have PP := blk_set (o := 0) ((blk_far (q := ⟨w.heap.size + 1, 2, none⟩) hne2).trans ((blk_far (q := ⟨w.heap.size + 1, 1, none⟩) hne2).trans ((blk_far (q := ⟨w.heap.size + 1, 0, none⟩) hne2).trans P6.out))) (.slice (some ⟨k, 0, none⟩) 3 3)
         refine bodyPost_ret (v := .tuple #[.agg #[.slice (some ⟨k, 0, none⟩) 3 3], .agg #[.int .i64 L, .int .i64 S, .int .i64 V]]) (by obtain ⟨y0, y1, y2⟩ := cells_res S6.out (.int .i64 L) (.int .i64 S) (.int .i64 V); have y3 := (cells1 PP).1; simp at y3; simp [results, Try.results51, go_sem, y0, y1, y2, y3]) rfl ⟨x, y, z, L, S, V, k, hx, hy, hz, hs, hs99, rfl, (blk_far (by show w.heap.size ≠ k; omega)).trans ((blk_far (by show w.heap.size + 1 ≠ k; omega)).trans ((blk_far (by show w.heap.size + 1 ≠ k; omega)).trans ((blk_far (by show w.heap.size + 1 ≠ k; omega)).trans K6.out))), (((HB6.out.setCell (by show w.heap.size ≤ w.heap.size + 1; omega) _).setCell (by show w.heap.size ≤ w.heap.size + 1; omega) _).setCell (by show w.heap.size ≤ w.heap.size + 1; omega) _).setCell (Nat.le_refl _) _⟩)

theorem infoInt2 : (Try.prog.info? 3).map (fun i => (i.zero, i.size, i.bytes)) = some (some (.int .i64 0), 1, 8) := by kernel_rfl
theorem own_cur {w w' : World} {B' : Nat} {e : TypeId} {k : Nat} {v : Value} {n : Nat} {xs : List Value} {g : Nat} (h : w.ownsRow B' e k v n xs) (hg : w.grownBy w' (some g)) (hne : g < B') : w'.ownsRow B' e k v n xs :=
  h.kept hg (.inr fun e => by have := (h.lt g e).1; omega)

set_option maxRecDepth 100000 in
set_option maxHeartbeats 4000000 in
theorem DrawPlaces_any {n : Nat} {p : Option Addr} {cap gc oc : Nat} {w0 w : World} (hn : n ≤ 1048576) (hb0 : Below w0.heap.size w0 w) (hC : Code w0.heap.size n w0 p gc oc) :
    Calls Try.prog 46 #[.slice p n cap] w fun e w' => ∃ (v : Value) (z : Nat → Int), (∀ j, j < 12 → 0 ≤ z j ∧ z j ≤ 9999) ∧ e = .returned v ∧ Rd w' v 12 12 z ∧ Below w.heap.size w w' := by
  obtain ⟨i0, hi, hz0, hz1, hz2⟩ := info_parts infoInt2
  have hsw : w0.heap.size ≤ w.heap.size := hb0.size
  have HC := Lib.hid (hC.later hb0 (Nat.le_refl _))
  clear hC hb0
  go_enter Try.func46, Try.ntmps46
  go_wp2_with fail
  refine (new_any hn hsw HC.out).mono ?_
  rintro e w1 ⟨g, rfl, hc1, hb1, hg1⟩
  have C1 := Lib.hid hc1
  have HB1 := Lib.hid hb1
  have hgl : g < w1.heap.size := hc1.lt
  have hs1 : w.heap.size ≤ w1.heap.size := hb1.size
  clear hc1 hb1
  go_wp2_with fail
  go_loopw [4, 5] (fun ov v wr => ∃ (k : Nat) (l : List Int), k ≤ 12 ∧ v = .int .i64 (k : Int) ∧ l.length = k ∧ Hid (∀ x ∈ l, 0 ≤ x ∧ x ≤ 9999) ∧ wr.ownsRow w1.heap.size 3 1 ov k (l.map (Value.int .i64)) ∧ Cu w0.heap.size n p cap gc oc wr g ∧ Below w.heap.size w wr ∧ w1.heap.size ≤ wr.heap.size) (fun _ v _ => 12 - (intOf v).toNat)
  case atStart => exact ⟨0, [], by omega, rfl, rfl, fun x hx => absurd hx (by simp), ⟨rfl, .inr ⟨w1.heap.size, 0, #[], rfl, Nat.le_refl _, heap_alloc_new w1 _, Nat.le_refl _, by unfold maxLen; omega, rfl, rfl⟩⟩, C1.out.allocd _, HB1.out.alloc hs1 _, by simp⟩
  case round =>
    obtain ⟨k, l, hk, rfl, hl, HL, hown, hcu, hbw, hszr⟩ := hrel
    by_cases hkn : k < 12
    · have hk0 : (0 : Int) ≤ (k : Int) := by omega
      have hkl : (k : Int) < 12 := by omega
      have HOWN := Lib.hid hown
      have HBW := Lib.hid hbw
      have HCU := Lib.hid hcu
      clear hown hbw hcu
      go_wp2_with fail
      refine (below_at hn HCU.out 10000 _ rfl (by omega) (by omega)).mono ?_
      rintro e w2 ⟨x, hx, rfl, hc2, hg2⟩
      have C2 := Lib.hid hc2
      have HO2 := Lib.hid (own_cur HOWN.out hg2 hgl)
      have HB2 := Lib.hid (below_cur HBW.out hg2 hg1)
      have hsz2 : w1.heap.size ≤ w2.heap.size := by have := hg2.size; omega
      clear hc2 hg2
      go_wp2_with (at_builtin; refine wpList_append_own _ rfl _ _ 26 rfl w1.heap.size 3 i0 (.int .i64 0) 1 8 Try.underlying26 hi hz0 hz1 hz2 rfl (by decide) _ k _ rfl (HO2.out.alloc _) ⟨w2.heap.size, 0, none⟩ 1 1 [.int .i64 (x : Int)] rfl rfl (by intro j u hj; match j, hj with | 0, hj => simp at hj; subst hj; simp [Addr.add]) (by intro u hu; simp at hu; subst hu; rfl) (by unfold maxLen; omega) (by omega) (by simp; omega) ?_; intro v' w3 hown3 hgrow3 _)
      have hbw3 : Below w.heap.size w w3 := (HB2.out.alloc HB2.out.size _).grown hgrow3 (by have := HB2.out.size; simp; omega) (fun j hj => by have := (HO2.out.lt j hj).1; omega)
      have hcu3 : Cu w0.heap.size n p cap gc oc w3 g := (C2.out.allocd _).grown hgrow3 (fun e => by have := (HO2.out.lt g e.symm).1; omega) (fun j hj => by have := (HO2.out.lt j hj).1; omega)
      have hmap : (l.map (Value.int .i64)) ++ [.int .i64 (x : Int)] = (l ++ [(x : Int)]).map (Value.int .i64) := by simp
      rw [hmap] at hown3
      have HO3 := Lib.hid hown3
      have hgs3 := hgrow3.size
      clear hown3 hgrow3 hmap
      go_wp2_with fail
      go_roundw
      case rel => exact ⟨k + 1, l ++ [(x : Int)], by omega, by congr 1, by simp [hl], fun y hy => by
        rcases List.mem_append.1 hy with h | h
        · exact HL.out y h
        · simp at h; omega, HO3.out, hcu3, hbw3, by have := hgs3; simp at this; omega⟩
      case measure => simp only [intOf]; omega
    · obtain rfl : k = 12 := by omega
      have HOWN := Lib.hid hown
      clear hown
      go_wp2_with fail
      go_ret
      refine ⟨_, fun j => l.getD j 0, fun j hj => ?_, rfl, ?_, hbw⟩
      · show 0 ≤ l.getD j 0 ∧ l.getD j 0 ≤ 9999
        rw [List.getD_eq_getElem?_getD, List.getElem?_eq_getElem (by omega)]
        exact HL.out _ (List.getElem_mem _)
      · have h1 := Own.of_own (z := fun j => l.getD j 0) HOWN.out (fun j hj => by
          rw [List.getElem?_map, List.getElem?_eq_getElem (by omega), List.getD_eq_getElem?_getD, List.getElem?_eq_getElem (by omega)]; rfl)
        rw [Nat.mul_one] at h1
        exact h1.rd (Nat.le_refl _)

end Go.Proofs.Ytkdlhapbbnggoab
