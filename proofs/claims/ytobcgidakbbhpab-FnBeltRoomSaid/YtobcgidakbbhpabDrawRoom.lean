/- What the draw of a belt and sizes hands out. -/
import Derived.Test.YtobcgidakbbhpabDrawEnter
import Derived.Test.YtobcgidakbbhpabOwnV
namespace Go.Proofs.Ytobcgidakbbhpab
open Go.RowKit
set_option linter.unusedVariables false

theorem infoIntD : (Try.prog.info? 3).map (fun i => (i.zero, i.size, i.bytes)) = some (some (.int .i64 0), 1, 8) := by kernel_rfl
/-- What stands while the sizes are drawn. -/
structure DRm (B n : Nat) (p : Option Addr) (cap gc oc g : Nat) (w : World) (lo S3 S4 : Nat) (L G : Int) (H : Bool) (po : Option Addr) (q co : Nat) (z : Nat → Int) (g1 : Nat) (W : World) (vv : Value) (m : Nat) (l : List Int) : Prop where
  c : Cu B n p cap gc oc W g
  f : FlatAt W lo S3 po g1 0 (q * 3) (fun j => .int .i64 (z j))
  b : Below w.heap.size w W
  r : Bk W w.heap.size 0 0 false (.slice none 0 0)
  t : Bk W S3 L G H (.slice po q co)
  o : W.ownsRow S4 3 1 vv m (l.map (.int .i64))
  s : S4 ≤ W.heap.size
section
variable {B n : Nat} {p : Option Addr} {cap gc oc g : Nat} {w : World} {lo S3 S4 : Nat} {L G : Int} {H : Bool} {po : Option Addr} {q co : Nat} {z : Nat → Int} {g1 : Nat} {W W' : World} {vv : Value} {m : Nat} {l : List Int}
theorem DRm.grown (h : DRm B n p cap gc oc g w lo S3 S4 L G H po q co z g1 W vv m l) (hd : B ≤ w.heap.size ∧ w.heap.size < g ∧ g < lo ∧ lo ≤ S3 ∧ S3 < S4) (hg : W.grownBy W' (some g)) (hc : Cu B n p cap gc oc W' g) : DRm B n p cap gc oc g w lo S3 S4 L G H po q co z g1 W' vv m l :=
  ⟨hc, h.f.grown hg (by have := h.s; omega) (fun k hk => by injection hk with hk; omega), below_grn h.b hg (by omega), h.r.grown hg (by omega), h.t.grown hg (by omega), own_grown h.o hg (by omega), Nat.le_trans h.s hg.size⟩
theorem DRm.app (h : DRm B n p cap gc oc g w lo S3 S4 L G H po q co z g1 W vv m l) (hd : B ≤ w.heap.size ∧ w.heap.size < g ∧ g < lo ∧ lo ≤ S3 ∧ S3 < S4) {tmp : Obj} (hg : (W.alloc tmp).grownBy W' vv.ownBlock) {v' : Value} {m' : Nat} {l' : List Int} (ho : W'.ownsRow S4 3 1 v' m' (l'.map (.int .i64))) : DRm B n p cap gc oc g w lo S3 S4 L G H po q co z g1 W' v' m' l' := by
  have hs := h.s
  have hk : ∀ k, k < S4 → W'.heap[k]? = W.heap[k]? := fun k hk => (hg.block k (by simp; omega) (by intro e; have := (h.o.lt k e.symm).1; omega)).trans (heap_old _ _ _ (by omega))
  have hb : Below S4 W W' := ((Below.refl S4 W).alloc hs tmp).grown hg (by simp; omega) (fun k e => (h.o.lt k e).1)
  refine ⟨h.c.kept (hk g (by omega)) (fun k hk2 => hk k (by omega)), h.f.keep (fun k _ h2 => hk k (by omega)), h.b.trans (hb.mono (by omega)), (hk _ (by omega)).trans h.r, (hk _ (by omega)).trans h.t, ho, Nat.le_trans hs hb.size⟩
end

set_option maxRecDepth 100000 in
set_option maxHeartbeats 8000000 in
theorem DrawRoom_any {n : Nat} {p : Option Addr} {cap gc oc : Nat} {w0 w : World} (hn : n ≤ 1048576) (hb0 : Below w0.heap.size w0 w) (hC : Code w0.heap.size n w0 p gc oc) :
    Calls Try.prog 34 #[.slice p n cap] w fun e w' => ∃ (L G : Int) (H : Bool) (q : Nat) (po : Option Addr) (co : Nat) (z : Nat → Int) (m : Nat) (v : Value) (y : Nat → Int), e = .returned (.tuple #[.agg #[.int .i64 L, .int .i64 G, .bool H, .slice po q co], v]) ∧ q ≤ 50 ∧ (∀ j, j < q → z (j * 3) ≤ 4999) ∧ Rd w' (.slice po q co) q (q * 3) z ∧ m ≤ 20 ∧ Rd w' v m m y ∧ Below w.heap.size w w' := by
  obtain ⟨i0, hi, hz0, hz1, hz2⟩ := info_parts infoIntD
  have HB0 := Lib.hid hb0
  have hsw : w0.heap.size ≤ w.heap.size := hb0.size
  have HC := Lib.hid hC
  clear hC hb0
  go_enter Try.func34, Try.ntmps34
  go_wp2_with fail
  obtain ⟨w1, hw1⟩ : ∃ xx, xx = w.alloc (.cells #[.int .i64 0, .int .i64 0, .bool false, .slice none 0 0] 28) := ⟨_, rfl⟩
  have hb1 : Below w.heap.size w w1 := by rw [hw1]; exact (Below.refl _ _).alloc (Nat.le_refl _) _
  have R1 : Hid (Bk w1 w.heap.size 0 0 false (.slice none 0 0)) := by rw [hw1]; exact heap_new _ _ _ rfl
  rw [← hw1]
  clear hw1
  have HB1 := Lib.hid hb1
  refine (new_any hn (Nat.le_trans hsw hb1.size) (HC.out.later3 (HB0.out.trans (hb1.mono hsw)) (Nat.le_refl _))).mono ?_
  rintro e w2 ⟨g, rfl, hc2, hb2, hg2⟩
  have C2 := Lib.hid hc2
  have HB2 := Lib.hid (hb1.trans (hb2.mono hb1.size))
  have R2 := Lib.hid (R1.out.below hb2)
  have hgw : w.heap.size < g := by have := R1.out.lt; omega
  have hgl : g < w2.heap.size := C2.out.lt
  clear hc2 hb2 hb1 R1 HB1
  go_wp2_with fail
  refine (l02Any_any hn C2.out).mono ?_
  rintro e w3 ⟨L, G, H, q, po, co, z, g1, rfl, hq, hqc, hz9, hF, hc3, hg3⟩
  have C3 := Lib.hid hc3
  have F3 := Lib.hid hF
  have HZ := Lib.hid hz9
  have HB3 := Lib.hid (below_grn HB2.out hg3 (by omega))
  have R3 := Lib.hid (R2.out.grown hg3 (by omega))
  have hs3 : w2.heap.size ≤ w3.heap.size := hg3.size
  clear hF hc3 hg3 R2 HB2 hz9
  go_upto_region 4 with fail
  obtain ⟨w4, hw4⟩ : ∃ xx, xx = w3.alloc (.cells #[.int .i64 L, .int .i64 G, .bool H, .slice po q co] 28) := ⟨_, rfl⟩
  have b4 : Below w3.heap.size w3 w4 := by rw [hw4]; exact (Below.refl _ _).alloc (Nat.le_refl _) _
  have hs4 : w4.heap.size = w3.heap.size + 1 := by rw [hw4]; simp
  obtain ⟨w5, hw5⟩ : ∃ xx, xx = w4.alloc (.cells #[] 3) := ⟨_, rfl⟩
  have b5 : Below w4.heap.size w4 w5 := by rw [hw5]; exact (Below.refl _ _).alloc (Nat.le_refl _) _
  have hd : w0.heap.size ≤ w.heap.size ∧ w.heap.size < g ∧ g < w2.heap.size ∧ w2.heap.size ≤ w3.heap.size ∧ w3.heap.size < w4.heap.size := by omega
  have b35 := b4.trans (b5.mono (by omega))
  have D5 : Hid (DRm w0.heap.size n p cap gc oc g w w2.heap.size w3.heap.size w4.heap.size L G H po q co z g1 w5 (.slice (some ⟨w3.heap.size + 1, 0, none⟩) 0 0) 0 []) :=
    ⟨C3.out.below b35, F3.out.below b35 (Nat.le_refl _), HB3.out.trans (b35.mono HB3.out.size), R3.out.below b35, by rw [hw5, hw4]; exact (heap_old _ _ _ (by simp)).trans (heap_new _ _ _ rfl), ⟨rfl, .inr ⟨w3.heap.size + 1, 0, #[], rfl, by omega, by rw [hw5]; exact heap_new _ _ _ hs4.symm, Nat.le_refl _, by decide, by simp, by simp⟩⟩, b5.size⟩
  rw [← hw4, ← hw5]
  clear hw4 hw5 b4 b5 b35 C3 F3 HB3 R3
  go_wp2_with fail
  refine (below_at hn D5.out.c 9 _ rfl (by omega) (by omega)).mono ?_
  rintro e w6 ⟨k0, hk0, rfl, hc6, hg6⟩
  have D6 := Lib.hid (D5.out.grown hd hg6 hc6)
  clear hc6 hg6 D5
  go_wp2_with fail
  go_loopw [6, 7] (fun vv nv wr => ∃ (k m : Nat) (v : Value) (l : List Int), nv = .int .i64 (k : Int) ∧ v = vv ∧ k + m ≤ 8 ∧ Hid (DRm w0.heap.size n p cap gc oc g w w2.heap.size w3.heap.size w4.heap.size L G H po q co z g1 wr v m l)) (fun _ nv _ => (intOf nv).toNat)
  case atStart => exact ⟨k0, 0, _, [], rfl, rfl, by omega, D6⟩
  case round =>
    clear D6
    obtain ⟨k, m, v, l, rfl, rfl, hkm, D⟩ := hrel
    by_cases hk : 0 < k
    · have hkp : (0 : Int) < (k : Int) := by omega
      have hwk : IntKind.i64.wrap ((k : Int) - 1) = ((k - 1 : Nat) : Int) := by rw [IntWalk.i64_in _ (by omega)]; omega
      go_wp2_with fail
      refine (below_at hn D.out.c 12 _ rfl (by omega) (by omega)).mono ?_
      rintro e w7 ⟨x, hx, rfl, hc7, hg7⟩
      have D7 := Lib.hid (D.out.grown hd hg7 hc7)
      have hwx : IntKind.i64.wrap (1 + (x : Int)) = 1 + (x : Int) := IntWalk.i64_in _ (by omega)
      have hO := D7.out.o
      have hS := D7.out.s
      clear hc7 hg7 D
      go_wp2_with (at_builtin; refine wpList_append_own _ rfl _ _ 44 rfl w4.heap.size 3 i0 (.int .i64 0) 1 8 Try.underlying44 hi hz0 hz1 hz2 rfl (by decide) _ m _ rfl (hO.alloc _) ⟨w7.heap.size, 0, none⟩ 1 1 [.int .i64 (1 + (x : Int))] rfl rfl (by intro j u hj; match j, hj with | 0, hj => simp at hj; subst hj; simp [Addr.add]) (by intro u hu; simp at hu; subst hu; rfl) (by unfold maxLen; omega) (by omega) (by simp; omega) ?_; intro v8 w8 hown8 hgrow8 _; have D8 := Lib.hid (D7.out.app hd hgrow8 (l' := l ++ [1 + (x : Int)]) (by rw [List.map_append]; exact hown8)); clear hown8 hgrow8)
      go_roundw
      case rel => exact ⟨k - 1, m + 1, v8, _, by first | rfl | (congr 1; omega), rfl, by omega, D8⟩
      case measure => simp [intOf]; omega
    · obtain rfl : k = 0 := by omega
      go_wp2_with fail
      refine (once_at hn D.out.c 12 _ rfl (by omega) (by omega)).mono ?_
      rintro e w7 ⟨bb, rfl, hc7, hg7⟩
      have D7 := Lib.hid (D.out.grown hd hg7 hc7)
      clear hc7 hg7 D
      cases bb with
      | false =>
        obtain ⟨t0, t1, t2, t3, -⟩ := D7.out.t.cells
        obtain ⟨r0, r1, r2, r3, f0, f1, f2, f3⟩ := D7.out.r.cells
        go_wp2_with fail
        have PP := D7.out.r.res (L' := L) (G' := G) (H' := H) (v' := .slice po q co)
        have hlen := D7.out.o.1
        rw [List.length_map] at hlen
        have eF : ∀ k, k ≠ w.heap.size → ((((w7.setCell ⟨w.heap.size, 0, none⟩ (.int .i64 L)).setCell ⟨w.heap.size, 1, none⟩ (.int .i64 G)).setCell ⟨w.heap.size, 2, none⟩ (.bool H)).setCell ⟨w.heap.size, 3, none⟩ (.slice po q co)).heap[k]? = w7.heap[k]? := fun k hk => (Below.heap_setCell _ _ _ _ (by show k ≠ w.heap.size; exact hk)).trans ((Below.heap_setCell _ _ _ _ (by show k ≠ w.heap.size; exact hk)).trans ((Below.heap_setCell _ _ _ _ (by show k ≠ w.heap.size; exact hk)).trans (Below.heap_setCell _ _ _ _ (by show k ≠ w.heap.size; exact hk))))
        have ne : (v).ownBlock ≠ some w.heap.size := fun e => by have := (D7.out.o.lt _ e).1; omega
        have O9 := (((D7.out.o.kept (grown_set1 _ w.heap.size 0 (.int .i64 L)) (.inr ne)).kept (grown_set1 _ w.heap.size 1 (.int .i64 G)) (.inr ne)).kept (grown_set1 _ w.heap.size 2 (.bool H)) (.inr ne)).kept (grown_set1 _ w.heap.size 3 (.slice po q co)) (.inr ne)
        refine bodyPost_ret (v := .tuple #[.agg #[.int .i64 L, .int .i64 G, .bool H, .slice po q co], v]) (by obtain ⟨y0, y1, y2, y3, -⟩ := PP.cells; simp [results, Try.results34, go_sem, y0, y1, y2, y3]) rfl ⟨L, G, H, q, po, co, z, m, v, fun j => (l).getD j 0, rfl, hq, HZ.out, ?_, by omega, ?_, ?_⟩
        · exact ⟨po, co, g1, 0, rfl, hqc, (D7.out.f.keep (fun k h1 h2 => eF k (by omega))).wide (Nat.zero_le _) (by have := D7.out.s; simp only [World.setCell, Array.size_modify]; omega)⟩
        · have h9 := (Own.of_own (z := fun j => (l).getD j 0) O9 (fun j hj => by rw [List.getElem?_map, List.getElem?_eq_getElem (by omega)]; simp [List.getD_eq_getElem?_getD, List.getElem?_eq_getElem (show j < (l).length by omega)])).rd (Nat.le_refl _)
          rwa [Nat.mul_one] at h9
        · exact (((D7.out.b.setCell (Nat.le_refl _) _).setCell (Nat.le_refl _) _).setCell (Nat.le_refl _) _).setCell (Nat.le_refl _) _
      | true =>
        have HP := Lib.hid (pickNew hn D7.out.c [0, 61, 60] 3 3 rfl (by decide) (by decide) #[.int .i64 0, .int .i64 61, .int .i64 60] rfl 3)
        go_wp2_with fail
        refine HP.out.mono ?_
        rintro e w8 ⟨x, hx, rfl, hc8, hg8⟩
        have D8 := Lib.hid (D7.out.grown hd hg8 hc8)
        have hO := D8.out.o
        have hS := D8.out.s
        clear hc8 hg8 D7 HP hx
        go_upto_region 10 with (at_builtin; refine wpList_append_own _ rfl _ _ 44 rfl w4.heap.size 3 i0 (.int .i64 0) 1 8 Try.underlying44 hi hz0 hz1 hz2 rfl (by decide) _ m _ rfl (hO.alloc _) ⟨w8.heap.size, 0, none⟩ 1 1 [.int .i64 x] rfl rfl (by intro j u hj; match j, hj with | 0, hj => simp at hj; subst hj; simp [Addr.add]) (by intro u hu; simp at hu; subst hu; rfl) (by unfold maxLen; omega) (by omega) (by simp; omega) ?_; intro v9 w9 hown9 hgrow9 _; have D9 := Lib.hid (D8.out.app hd hgrow9 (l' := l ++ [x]) (by rw [List.map_append]; exact hown9)); clear hown9 hgrow9 hO hS)
        obtain ⟨t0, t1, t2, t3, -⟩ := D9.out.t.cells
        obtain ⟨r0, r1, r2, r3, f0, f1, f2, f3⟩ := D9.out.r.cells
        go_wp2_with fail
        have PP := D9.out.r.res (L' := L) (G' := G) (H' := H) (v' := .slice po q co)
        have hlen := D9.out.o.1
        rw [List.length_map] at hlen
        have eF : ∀ k, k ≠ w.heap.size → ((((w9.setCell ⟨w.heap.size, 0, none⟩ (.int .i64 L)).setCell ⟨w.heap.size, 1, none⟩ (.int .i64 G)).setCell ⟨w.heap.size, 2, none⟩ (.bool H)).setCell ⟨w.heap.size, 3, none⟩ (.slice po q co)).heap[k]? = w9.heap[k]? := fun k hk => (Below.heap_setCell _ _ _ _ (by show k ≠ w.heap.size; exact hk)).trans ((Below.heap_setCell _ _ _ _ (by show k ≠ w.heap.size; exact hk)).trans ((Below.heap_setCell _ _ _ _ (by show k ≠ w.heap.size; exact hk)).trans (Below.heap_setCell _ _ _ _ (by show k ≠ w.heap.size; exact hk))))
        have ne : (v9).ownBlock ≠ some w.heap.size := fun e => by have := (D9.out.o.lt _ e).1; omega
        have O9 := (((D9.out.o.kept (grown_set1 _ w.heap.size 0 (.int .i64 L)) (.inr ne)).kept (grown_set1 _ w.heap.size 1 (.int .i64 G)) (.inr ne)).kept (grown_set1 _ w.heap.size 2 (.bool H)) (.inr ne)).kept (grown_set1 _ w.heap.size 3 (.slice po q co)) (.inr ne)
        refine bodyPost_ret (v := .tuple #[.agg #[.int .i64 L, .int .i64 G, .bool H, .slice po q co], v9]) (by obtain ⟨y0, y1, y2, y3, -⟩ := PP.cells; simp [results, Try.results34, go_sem, y0, y1, y2, y3]) rfl ⟨L, G, H, q, po, co, z, m + 1, v9, fun j => (l ++ [x]).getD j 0, rfl, hq, HZ.out, ?_, by omega, ?_, ?_⟩
        · exact ⟨po, co, g1, 0, rfl, hqc, (D9.out.f.keep (fun k h1 h2 => eF k (by omega))).wide (Nat.zero_le _) (by have := D9.out.s; simp only [World.setCell, Array.size_modify]; omega)⟩
        · have h9 := (Own.of_own (z := fun j => (l ++ [x]).getD j 0) O9 (fun j hj => by rw [List.getElem?_map, List.getElem?_eq_getElem (by omega)]; simp [List.getD_eq_getElem?_getD, List.getElem?_eq_getElem (show j < (l ++ [x]).length by omega)])).rd (Nat.le_refl _)
          rwa [Nat.mul_one] at h9
        · exact (((D9.out.b.setCell (Nat.le_refl _) _).setCell (Nat.le_refl _) _).setCell (Nat.le_refl _) _).setCell (Nat.le_refl _) _

end Go.Proofs.Ytobcgidakbbhpab
