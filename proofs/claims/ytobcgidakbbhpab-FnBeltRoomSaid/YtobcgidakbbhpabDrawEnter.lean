/- What the draw of a belt, a bag and a size hands out. -/
import Derived.Test.YtobcgidakbbhpabDrawAnyBelt
import Derived.Deep.RegionHeld3
namespace Go.Proofs.Ytobcgidakbbhpab
open Go.RowKit
set_option linter.unusedVariables false

theorem pickNewD {B n : Nat} {p : Option Addr} {cap gc oc : Nat} {w : World} {g : Nat} (hn : n ≤ 1048576) (h : Cu B n p cap gc oc w g) (l : List Int) (m c : Nat) (hm : m = l.length) (hl0 : 0 < l.length) (hl : l.length ≤ 1000) (vs : Array Value) (hvs : vs = (l.map (Value.int .i64)).toArray) (t : TypeId) :
    Calls Try.prog 97 #[.pointer (some ⟨g, 0, none⟩), .slice (some ⟨w.heap.size, 0, none⟩) m c] (w.drew.alloc (.cells vs t)) fun e w' => ∃ x : Int, e = .returned (.int .i64 x) ∧ Cu B n p cap gc oc w' g ∧ w.grownBy w' (some g) := by
  refine Calls.mono (pickNew hn (h.kept rfl (fun _ _ => rfl) : Cu B n p cap gc oc w.drew g) l m c hm hl0 hl vs hvs t) ?_
  rintro e w' ⟨x, -, he, hc, hg⟩
  exact ⟨x, he, hc, (⟨rfl, rfl, rfl, Nat.le_refl _, fun _ _ _ => rfl⟩ : w.grownBy w.drew (some g)).trans hg⟩
theorem Bk.below {w w' : World} {k : Nat} {L G : Int} {H : Bool} {v : Value} (h : Bk w k L G H v) (hb : Below w.heap.size w w') : Bk w' k L G H v := (hb.block k (Array.getElem?_eq_some_iff.1 h).1).trans h
theorem below_grn {w0 w w' : World} {g : Nat} (h : Below w0.heap.size w0 w) (hg : w.grownBy w' (some g)) (hBg : w0.heap.size ≤ g) : Below w0.heap.size w0 w' :=
  h.trans (⟨hg.os, hg.tape, hg.output, hg.size, fun k hk => hg.block k (by have := h.size; omega) (by intro e; injection e with e; omega)⟩ : Below w0.heap.size w w')
theorem Code.later3 {B n : Nat} {w w' : World} {p : Option Addr} {gc oc : Nat} (h : Code B n w p gc oc) (hb : Below w.heap.size w w') (hB : B ≤ w.heap.size) : Code B n w' p gc oc :=
  ⟨h.1, fun j hj => by
    obtain ⟨x, hx, hc⟩ := h.2 j hj
    exact ⟨x, hx, (hb.cell (p := ⟨gc, oc + j, none⟩) (by have := (h.1 (by omega)).2; show gc < _; omega)).trans hc⟩⟩
theorem Bk.res {w : World} {k : Nat} {L G L' G' : Int} {H H' : Bool} {v v' : Value} (h : Bk w k L G H v) : Bk ((((w.setCell ⟨k, 0, none⟩ (.int .i64 L')).setCell ⟨k, 1, none⟩ (.int .i64 G')).setCell ⟨k, 2, none⟩ (.bool H')).setCell ⟨k, 3, none⟩ v') k L' G' H' v' := by
  unfold Bk
  rw [blk_set (blk_set (blk_set (blk_set h _) _) _) _]
  rfl

set_option maxRecDepth 100000 in
set_option maxHeartbeats 8000000 in
theorem DrawEnter_any {n : Nat} {p : Option Addr} {cap gc oc : Nat} {w0 w : World} (hn : n ≤ 1048576) (hb0 : Below w0.heap.size w0 w) (hC : Code w0.heap.size n w0 p gc oc) :
    Calls Try.prog 37 #[.slice p n cap] w fun e w' => ∃ (L G : Int) (H : Bool) (q : Nat) (po : Option Addr) (co : Nat) (z : Nat → Int) (g1 : Nat) (x y : Int), e = .returned (.tuple #[.agg #[.int .i64 L, .int .i64 G, .bool H, .slice po q co], .int .i64 x, .int .i64 y]) ∧ q ≤ 50 ∧ q ≤ co ∧ FlatAt w' w.heap.size w'.heap.size po g1 0 (q * 3) (fun j => .int .i64 (z j)) ∧ Below w.heap.size w w' := by
  have HB0 := Lib.hid hb0
  have hsw : w0.heap.size ≤ w.heap.size := hb0.size
  have HC := Lib.hid hC
  clear hC hb0
  go_enter Try.func37, Try.ntmps37
  go_wp2_with fail
  obtain ⟨w1, hw1⟩ : ∃ xx, xx = w.alloc (.cells #[.int .i64 0, .int .i64 0, .bool false, .slice none 0 0] 28) := ⟨_, rfl⟩
  have hb1 : Below w.heap.size w w1 := by rw [hw1]; exact (Below.refl _ _).alloc (Nat.le_refl _) _
  have R1 : Hid (Bk w1 w.heap.size 0 0 false (.slice none 0 0)) := by rw [hw1]; exact heap_new _ _ _ rfl
  rw [← hw1]
  clear hw1
  have HB1 := Lib.hid hb1
  refine (new_any hn (Nat.le_trans hsw hb1.size) (HC.out.later3 (HB0.out.trans (hb1.mono hsw)) (Nat.le_refl _))).mono ?_
  rintro e w2 ⟨g, rfl, hc2, hb2, hg2⟩
  have C2 := Lib.hid hc2
  have HB2 := Lib.hid (hb1.trans (hb2.mono hb1.size))
  have R2 := Lib.hid (R1.out.below hb2)
  have hgw : w.heap.size < g := by have := R1.out.lt; omega
  have hgl : g < w2.heap.size := C2.out.lt
  clear hc2 hb2 hb1 R1 HB1
  go_wp2_with fail
  refine (l02Any_any hn C2.out).mono ?_
  rintro e w3 ⟨L, G, H, q, po, co, z, g1, rfl, hq, hqc, -, hF, hc3, hg3⟩
  have C3 := Lib.hid hc3
  have F3 := Lib.hid hF
  have HB3 := Lib.hid (below_grn HB2.out hg3 (by omega))
  have R3 := Lib.hid (R2.out.grown hg3 (by omega))
  have hs3 : w2.heap.size ≤ w3.heap.size := hg3.size
  clear hF hc3 hg3 R2 HB2
  go_wp2_with fail
  obtain ⟨w4, hw4⟩ : ∃ xx, xx = w3.alloc (.cells #[.int .i64 L, .int .i64 G, .bool H, .slice po q co] 28) := ⟨_, rfl⟩
  have b4 : Below w3.heap.size w3 w4 := by rw [hw4]; exact (Below.refl _ _).alloc (Nat.le_refl _) _
  have T4 : Hid (Bk w4 w3.heap.size L G H (.slice po q co)) := by rw [hw4]; exact heap_new _ _ _ rfl
  have HP4 := Lib.hid hw4
  have C4 := Lib.hid (C3.out.below b4)
  have F4 := Lib.hid (F3.out.below b4 (Nat.le_refl _))
  have HB4 := Lib.hid (HB3.out.trans (b4.mono HB3.out.size))
  have R4 := Lib.hid (R3.out.below b4)
  have hs4 := b4.size
  have hT3 : w3.heap.size < w4.heap.size := T4.out.lt
  have hs40 : w3.heap.size + 1 = w4.heap.size := by rw [hw4]; simp
  rw [← hw4, hs40]
  clear hs40 hw4 b4 R3 F3 HB3 HP4
  refine (pickNew hn C4.out [99, 99, 99, 0, 1, 5, 11] 7 7 rfl (by decide) (by decide) _ rfl _).mono ?_
  rintro e w7 ⟨x, hx, rfl, hc7, hg7⟩
  have C7 := Lib.hid hc7
  have F7 := Lib.hid (F4.out.grown hg7 (by omega) (fun k hk => by injection hk with hk; omega))
  have HB7 := Lib.hid (below_grn HB4.out hg7 (by omega))
  have R7 := Lib.hid (R4.out.grown hg7 (by omega))
  have T7 := Lib.hid (T4.out.grown hg7 (by omega))
  have hs7 : w4.heap.size ≤ w7.heap.size := hg7.size
  clear hc7 hg7 hx R4 T4 F4 HB4
  obtain ⟨t0, t1, t2, t3, -⟩ := T7.out.cells
  have hTg : w3.heap.size ≠ g := by omega
  have hRg : w.heap.size ≠ g := by omega
  have hTR : w3.heap.size ≠ w.heap.size := by omega
  have hRT : w.heap.size ≠ w3.heap.size := by omega
  have hg7 : g < w7.heap.size := C7.out.lt
  have hYg : w7.heap.size ≠ g := by omega
  have hDx : ∀ W : World, W.grownBy W.drew (some g) := fun W => ⟨rfl, rfl, rfl, Nat.le_refl _, fun _ _ _ => rfl⟩
  have hkeep0 : w7.cell? ⟨w3.heap.size, 0, none⟩ = some (.int .i64 L) ∧ w7.cell? ⟨w3.heap.size, 1, none⟩ = some (.int .i64 G) ∧ w7.cell? ⟨w3.heap.size, 2, none⟩ = some (.bool H) ∧ w7.cell? ⟨w3.heap.size, 3, none⟩ = some (.slice po q co) := ⟨t0, t1, t2, t3⟩
  have HPa := Lib.hid (pickDrew hn C7.out (rfl : w7.heap.size = w7.heap.size) [1, 2, 3, 5, 8, 20, 60, 61, 0] 9 9 rfl (by decide) (by decide) #[.int .i64 1, .int .i64 2, .int .i64 3, .int .i64 5, .int .i64 8, .int .i64 20, .int .i64 60, .int .i64 61, .int .i64 0] rfl 3)
  have HPb := Lib.hid (pickNewD hn C7.out [1, 2, 3, 5, 8, 20, 60, 61, 0] 9 9 rfl (by decide) (by decide) #[.int .i64 1, .int .i64 2, .int .i64 3, .int .i64 5, .int .i64 8, .int .i64 20, .int .i64 60, .int .i64 61, .int .i64 0] rfl 3)
  go_wp2_with fail
  go_region_held3 (fun K => K.cell? ⟨w3.heap.size, 0, none⟩ = some (.int .i64 L) ∧ K.cell? ⟨w3.heap.size, 1, none⟩ = some (.int .i64 G) ∧ K.cell? ⟨w3.heap.size, 2, none⟩ = some (.bool H) ∧ K.cell? ⟨w3.heap.size, 3, none⟩ = some (.slice po q co))
    (first | exact hkeep0 | exact hkeep1 | go_keep)
    (first | (go_at_call 97; (first | (with_reducible refine HPa.out.mono ?_) | (with_reducible refine HPb.out.mono ?_)); rintro e k1 ⟨y, rfl, c1, gx⟩; have F8 := Lib.hid (F7.out.grown gx (by omega) (fun k hk => by injection hk with hk; omega)); have HB8 := Lib.hid (below_grn HB7.out gx (by omega)); have R8 := Lib.hid (R7.out.grown gx hRg); have T8 := Lib.hid (T7.out.grown gx hTg); have hs8 : w7.heap.size ≤ k1.heap.size := gx.size; have hkeep1 : k1.cell? ⟨w3.heap.size, 0, none⟩ = some (.int .i64 L) ∧ k1.cell? ⟨w3.heap.size, 1, none⟩ = some (.int .i64 G) ∧ k1.cell? ⟨w3.heap.size, 2, none⟩ = some (.bool H) ∧ k1.cell? ⟨w3.heap.size, 3, none⟩ = some (.slice po q co) := ⟨T8.out.cells.1, T8.out.cells.2.1, T8.out.cells.2.2.1, T8.out.cells.2.2.2.1⟩; clear c1 gx; obtain ⟨r0, r1, r2, r3, f0, f1, f2, f3⟩ := R8.out.cells))
  all_goals
    go_wp2_with fail
    have PP := R8.out.res (L' := L) (G' := G) (H' := H) (v' := .slice po q co)
    refine bodyPost_ret (v := .tuple #[.agg #[.int .i64 L, .int .i64 G, .bool H, .slice po q co], .int .i64 x, .int .i64 y]) (by obtain ⟨y0, y1, y2, y3, -⟩ := PP.cells; simp [results, Try.results37, go_sem, y0, y1, y2, y3]) rfl ⟨L, G, H, q, po, co, z, g1, x, y, rfl, hq, hqc, ((((F8.out.far (q := ⟨w.heap.size, 0, none⟩) _ (.inl (by show w.heap.size < w2.heap.size; omega))).far (q := ⟨w.heap.size, 1, none⟩) _ (.inl (by show w.heap.size < w2.heap.size; omega))).far (q := ⟨w.heap.size, 2, none⟩) _ (.inl (by show w.heap.size < w2.heap.size; omega))).far (q := ⟨w.heap.size, 3, none⟩) _ (.inl (by show w.heap.size < w2.heap.size; omega))).wide (by omega) (by simp only [World.setCell, Array.size_modify]; omega), (((HB8.out.setCell (Nat.le_refl _) _).setCell (Nat.le_refl _) _).setCell (Nat.le_refl _) _).setCell (Nat.le_refl _) _⟩

end Go.Proofs.Ytobcgidakbbhpab
