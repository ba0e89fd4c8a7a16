/- What the draw of valid images hands out. -/
import Derived.Test.YtkdlhapbbnggoaaDraw0
import Derived.Test.YtkdlhapbbnggoaaCode
import Derived.Test.YtkdlhapbbnggoaaMostPlain
import Derived.Test.YtkdlhapbbnggoaaRowImage
import Derived.Test.YtkdlhapbbnggoaaBlk
import Derived.Laws.OwnMore
namespace Go.Proofs.Ytkdlhapbbnggoaa
open Go.RowKit
set_option linter.unusedVariables false

theorem own_cu2 {w w' : World} {B' : Nat} {e : TypeId} {k : Nat} {v : Value} {n : Nat} {xs : List Value} {g : Nat} (h : w.ownsRow B' e k v n xs) (hg : w.grownBy w' (some g)) (hne : g < B') : w'.ownsRow B' e k v n xs :=
  h.kept hg (.inr fun e => by have := (h.lt g e).1; omega)
theorem Cu.alloc2 {B n : Nat} {p : Option Addr} {cap gc oc : Nat} {w : World} {g : Nat} (h : Cu B n p cap gc oc w g) (o : Obj) : Cu B n p cap gc oc (w.alloc o) g := h.below ((Below.refl _ _).alloc (Nat.le_refl _) _)
theorem below_cu2 {w w1 w2 : World} {g : Nat} (h : Below w.heap.size w w1) (hg : w1.grownBy w2 (some g)) (hBg : w.heap.size ≤ g) : Below w.heap.size w w2 :=
  h.trans (⟨hg.os, hg.tape, hg.output, hg.size, fun k hk => hg.block k (by have := h.size; omega) (by intro e; injection e with e; omega)⟩ : Below w.heap.size w1 w2)
theorem Code.later2 {B n : Nat} {w w' : World} {p : Option Addr} {gc oc : Nat} (h : Code B n w p gc oc) (hb : Below w.heap.size w w') (hB : B ≤ w.heap.size) : Code B n w' p gc oc :=
  ⟨h.1, fun j hj => by
    obtain ⟨x, hx, hc⟩ := h.2 j hj
    exact ⟨x, hx, (hb.cell (p := ⟨gc, oc + j, none⟩) (by have := (h.1 (by omega)).2; show gc < _; omega)).trans hc⟩⟩

/-- One image more. -/
theorem ImP_snoc {k : Nat} {l : List Int} (hl : l.length = k * 2) {a x y : Int} (h : ImP k (fun j => l.getD j 0)) (ha : a = prA (fun j => l.getD j 0) k) (hk : k < 8) (hx : 0 ≤ x ∧ a + x ≤ 100000) (hy : 1 ≤ y ∧ y ≤ 20) :
    ImP (k + 1) (fun j => (l ++ [a + x, y]).getD j 0) ∧ a + x = prA (fun j => (l ++ [a + x, y]).getD j 0) (k + 1) := by
  have hsame : ∀ j, j < k * 2 → (l ++ [a + x, y]).getD j 0 = l.getD j 0 := fun j hj => by
    rw [List.getD_eq_getElem?_getD, List.getD_eq_getElem?_getD, List.getElem?_append_left (by omega)]
  have e0 : (l ++ [a + x, y]).getD (k * 2) 0 = a + x := by
    rw [List.getD_eq_getElem?_getD, List.getElem?_append_right (by omega), hl, Nat.sub_self]; rfl
  have e1 : (l ++ [a + x, y]).getD (k * 2 + 1) 0 = y := by
    rw [List.getD_eq_getElem?_getD, List.getElem?_append_right (by omega), hl, Nat.add_sub_cancel_left]; rfl
  refine ⟨⟨by omega, fun i hi => ?_⟩, e0.symm⟩
  by_cases e : i = k
  · subst e
    have ep : prA (fun j => (l ++ [a + x, y]).getD j 0) i = prA (fun j => l.getD j 0) i := by
      cases i with
      | zero => rfl
      | succ i => exact hsame (i * 2) (by omega)
    unfold okI
    rw [ep, ← ha]
    show (a ≤ (l ++ [a + x, y]).getD (i * 2) 0 ∧ (l ++ [a + x, y]).getD (i * 2) 0 ≤ 100000) ∧ 1 ≤ (l ++ [a + x, y]).getD (i * 2 + 1) 0 ∧ (l ++ [a + x, y]).getD (i * 2 + 1) 0 ≤ 5000
    rw [e0, e1]
    omega
  · exact okI_congr (fun j hj => (hsame j (by omega)).symm) (h.2 i (by omega))

set_option maxRecDepth 100000 in
set_option maxHeartbeats 4000000 in
theorem l04Images_any {B n : Nat} {p : Option Addr} {cap gc oc : Nat} {w : World} {g : Nat} (hn : n ≤ 1048576) (h : Cu B n p cap gc oc w g) :
    Calls Try.prog 65 #[.pointer (some ⟨g, 0, none⟩)] w fun e w' => ∃ (v : Value) (q : Nat) (l : List Int), q ≤ 8 ∧ l.length = q * 2 ∧ ImP q (fun j => l.getD j 0) ∧ e = .returned v ∧ w'.ownsRow w.heap.size 65 2 v q (l.map (Value.int .i64)) ∧ Cu B n p cap gc oc w' g ∧ w.grownBy w' (some g) := by
  obtain ⟨i0, hi, hz0, hz1, hz2⟩ := info_parts infoImage
  have c3 := cellsImage
  have H := Lib.hid h
  have hgl := h.lt
  have hgB := h.base
  clear h
  go_enter Try.func65, Try.ntmps65
  go_wp2_with fail
  refine (below_at hn (H.out.alloc2 _) 9 _ rfl (by omega) (by omega)).mono ?_
  rintro e w1 ⟨N, hN, rfl, hc1, hg1⟩
  have C1 := Lib.hid hc1
  have hrow0 : w1.ownsRow w.heap.size 65 2 (.slice (some ⟨w.heap.size, 0, none⟩) 0 0) 0 [] := own_cu2 (B' := w.heap.size) ⟨rfl, .inr ⟨w.heap.size, 0, #[], rfl, Nat.le_refl _, heap_alloc_new w _, Nat.le_refl _, by unfold maxLen; omega, rfl, rfl⟩⟩ hg1 hgl
  have R1 := Lib.hid hrow0
  have G1 := Lib.hid ((World.grownBy_alloc w _ _).trans hg1)
  clear hc1 hg1 hrow0
  go_wp2_with fail
  go_loopw [3, 4, 5] (fun ov av nv wr => ∃ (k : Nat) (l : List Int) (a : Int), k ≤ N ∧ nv = .int .i64 (((N - k : Nat)) : Int) ∧ av = .int .i64 a ∧ 0 ≤ a ∧ a ≤ 4 * (k : Int) ∧ l.length = k * 2 ∧ Hid (ImP k (fun j => l.getD j 0) ∧ a = prA (fun j => l.getD j 0) k) ∧ wr.ownsRow w.heap.size 65 2 ov k (l.map (Value.int .i64)) ∧ Cu B n p cap gc oc wr g ∧ w.grownBy wr (some g)) (fun _ _ nv _ => (intOf nv).toNat)
  case atStart => exact ⟨0, [], 0, by omega, rfl, rfl, by omega, by omega, rfl, ⟨⟨by omega, fun i hi => absurd hi (by omega)⟩, rfl⟩, R1.out, C1.out, G1.out⟩
  case round =>
    obtain ⟨k, l, a, hk, rfl, rfl, ha0, ha4, hl, HI, hown, hcu, hgr⟩ := hrel
    obtain ⟨r, hr⟩ : ∃ r, r = N - k := ⟨_, rfl⟩
    rw [← hr]
    by_cases hkn : k < N
    · have hr1 : 1 ≤ r := by omega
      have hr9 : r ≤ 9 := by omega
      have hrd : decide ((0 : Int) < (r : Int)) = true := decide_eq_true (by omega)
      have hrd2 : decide (0 < r) = true := decide_eq_true (by omega)
      have HR : Hid (r = N - k) := hr
      have HOWN := Lib.hid hown
      have HCU := Lib.hid hcu
      have HGR := Lib.hid hgr
      have HL := Lib.hid hl
      clear hown hcu hgr hr hl
      go_wp2_with fail
      refine (pickNew hn HCU.out [0, 0, 1, 1, 2, 4] 6 6 rfl (by decide) (by decide) _ rfl _).mono ?_
      rintro e w2 ⟨x, hx, rfl, hc2, hg2⟩
      have hx4 : 0 ≤ x ∧ x ≤ 4 := by simp at hx; omega
      have C2 := Lib.hid hc2
      have O2 := Lib.hid (own_cu2 HOWN.out hg2 hgl)
      have G2 := Lib.hid (HGR.out.trans hg2)
      clear hx hc2 hg2 HCU HOWN HGR
      go_wp2_with fail
      refine (pickNew hn C2.out [1, 1, 2, 3, 5, 8, 20] 7 7 rfl (by decide) (by decide) _ rfl _).mono ?_
      rintro e w3 ⟨y, hy, rfl, hc3, hg3⟩
      have hy20 : 1 ≤ y ∧ y ≤ 20 := by simp at hy; omega
      have C3 := Lib.hid hc3
      have O3 := Lib.hid (own_cu2 O2.out hg3 hgl)
      have G3 := Lib.hid (G2.out.trans hg3)
      have hs3 : w.heap.size ≤ w3.heap.size := G3.out.size
      clear hy hc3 hg3 C2 O2 G2
      go_wp2_with (at_builtin; refine wpList_append_own _ rfl _ _ 49 rfl w.heap.size 65 i0 (.agg #[.int .i64 0, .int .i64 0]) 2 16 Try.underlying49 hi hz0 hz1 hz2 rfl (by decide) _ k _ rfl (O3.out.alloc _) ⟨w3.heap.size, 0, none⟩ 1 1 [.int .i64 (a + x), .int .i64 y] rfl rfl (by intro j u hj; match j, hj with | 0, hj => simp at hj; subst hj; simp [Addr.add] | 1, hj => simp at hj; subst hj; simp [Addr.add]) (by intro u hu; simp at hu; rcases hu with rfl | rfl <;> rfl) (by unfold maxLen; omega) (by omega) (by simp; omega) ?_; intro v' w4 hown4 hgrow4 _)
      have hcu4 : Cu B n p cap gc oc w4 g := (C3.out.alloc2 _).grown hgrow4 (fun e => by have := (O3.out.lt g e.symm).1; omega) (fun j hj => by have := (O3.out.lt j hj).1; omega)
      have hgr4 : w.grownBy w4 (some g) := by
        have h1 := G3.out.trans (World.grownBy_alloc w3 (.cells #[.int .i64 (a + x), .int .i64 y] 65) _)
        exact ⟨hgrow4.os.trans h1.os, hgrow4.tape.trans h1.tape, hgrow4.output.trans h1.output, Nat.le_trans h1.size hgrow4.size, fun j hj hne => (hgrow4.block j (by simp; omega) (fun e => by have := (O3.out.lt j e.symm).1; omega)).trans (h1.block j hj hne)⟩
      have hmap : (l.map (Value.int .i64)) ++ [.int .i64 (a + x), .int .i64 y] = (l ++ [a + x, y]).map (Value.int .i64) := by simp
      rw [hmap] at hown4
      have hImp := ImP_snoc HL.out HI.out.1 HI.out.2 (by omega) (x := x) (y := y) (by omega) hy20
      have HO4 := Lib.hid hown4
      have HIM := Lib.hid hImp
      clear hown4 hgrow4 hmap hImp
      go_wp2_with fail
      go_roundw
      case rel => exact ⟨k + 1, l ++ [a + x, y], a + x, by omega, by rw [show ((N - (k + 1) : Nat) : Int) = (r : Int) - 1 by have := HR.out; omega], rfl, by omega, by omega, by rw [List.length_append, HL.out]; simp; omega, HIM.out, HO4.out, hcu4, hgr4⟩
      case measure => have := HR.out; simp only [intOf]; omega
    · obtain rfl : k = N := by omega
      have hr0 : r = 0 := by omega
      subst hr0
      have HOWN := Lib.hid hown
      have HCU := Lib.hid hcu
      have HGR := Lib.hid hgr
      have HL := Lib.hid hl
      clear hown hcu hgr hr hl
      go_wp2_with fail
      go_ret
      exact ⟨_, k, l, by omega, HL.out, HI.out.1, rfl, HOWN.out, HCU.out, HGR.out⟩

set_option maxRecDepth 100000 in
set_option maxHeartbeats 4000000 in
theorem DrawImages_any {n : Nat} {p : Option Addr} {cap gc oc : Nat} {w0 w : World} (hn : n ≤ 1048576) (hb0 : Below w0.heap.size w0 w) (hC : Code w0.heap.size n w0 p gc oc) :
    Calls Try.prog 48 #[.slice p n cap] w fun e w' => ∃ (v : Value) (q : Nat) (z : Nat → Int) (t s : Int), q ≤ 8 ∧ ImP q z ∧ (0 ≤ t ∧ t ≤ 9) ∧ (1 ≤ s ∧ s ≤ 4) ∧ e = .returned (.tuple #[v, .int .i64 t, .int .i64 s]) ∧ Rd w' v q (q * 2) z ∧ Below w.heap.size w w' := by
  have hsw : w0.heap.size ≤ w.heap.size := hb0.size
  have HC := Lib.hid (hC.later2 hb0 (Nat.le_refl _))
  clear hC hb0
  go_enter Try.func48, Try.ntmps48
  go_wp2_with fail
  refine (new_any hn hsw HC.out).mono ?_
  rintro e w1 ⟨g, rfl, hc1, hb1, hg1⟩
  have C1 := Lib.hid hc1
  have HB1 := Lib.hid hb1
  have hs1 : w.heap.size ≤ w1.heap.size := hb1.size
  have hgl : g < w1.heap.size := hc1.lt
  clear hc1 hb1
  go_wp2_with fail
  refine (l04Images_any hn C1.out).mono ?_
  rintro e w2 ⟨v, q, l, hq, hl, hI, rfl, ho, hc2, hg2⟩
  have C2 := Lib.hid hc2
  have O2 := Lib.hid ho
  have HB2 := Lib.hid (below_cu2 HB1.out hg2 hg1)
  clear hc2 ho hg2
  go_wp2_with fail
  refine (pickNew hn C2.out [0, 0, 1, 2, 4, 9] 6 6 rfl (by decide) (by decide) _ rfl _).mono ?_
  rintro e w3 ⟨t, ht, rfl, hc3, hg3⟩
  have ht9 : 0 ≤ t ∧ t ≤ 9 := by simp at ht; omega
  have C3 := Lib.hid hc3
  have O3 := Lib.hid (own_cu2 O2.out hg3 hgl)
  have HB3 := Lib.hid (below_cu2 HB2.out hg3 hg1)
  clear ht hc3 hg3
  go_wp2_with fail
  refine (below_at hn C3.out 4 _ rfl (by omega) (by omega)).mono ?_
  rintro e w4 ⟨s, hs, rfl, hc4, hg4⟩
  have O4 := Lib.hid (own_cu2 O3.out hg4 hgl)
  have HB4 := Lib.hid (below_cu2 HB3.out hg4 hg1)
  have hs4 : (s : Int) < 4 := by omega
  clear hc4 hg4
  go_wp2_with fail
  go_ret3
  refine ⟨v, q, fun j => l.getD j 0, t, 1 + (s : Int), hq, hI, ht9, by omega, rfl, ?_, HB4.out⟩
  exact (Own.of_own (z := fun j => l.getD j 0) O4.out (fun j hj => by
    rw [List.getElem?_map, List.getElem?_eq_getElem (by omega), List.getD_eq_getElem?_getD, List.getElem?_eq_getElem (by omega)]; rfl)).rd (Nat.le_refl _)

end Go.Proofs.Ytkdlhapbbnggoaa
