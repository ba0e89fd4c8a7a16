/- What the draw of a decision hands out. -/
import Derived.Test.YtkdlhapbbnggoabDrawDec
import Derived.Test.YtkdlhapbbnggoabDrawScr2
import Derived.Test.YtkdlhapbbnggoabDrawDec2
namespace Go.Proofs.Ytkdlhapbbnggoab
open Go.RowKit
set_option linter.unusedVariables false

/-- What the draw of a decision hands out. -/
def DDP (w w' : World) (e : Ending) : Prop := ∃ (v : Value) (q : Nat) (z : Nat → Int) (L S V x D : Int), q ≤ 4 ∧ (-1 ≤ S ∧ S ≤ 100001) ∧ e = .returned (.tuple #[.agg #[v], .agg #[.int .i64 L, .int .i64 S, .int .i64 V], .int .i64 x, .int .i64 D]) ∧ Rd w' v q q z ∧ Below w.heap.size w w'

set_option maxRecDepth 100000 in
set_option maxHeartbeats 8000000 in
theorem DrawDecide_any {n : Nat} {p : Option Addr} {cap gc oc : Nat} {w0 w : World} (hn : n ≤ 1048576) (hb0 : Below w0.heap.size w0 w) (hC : Code w0.heap.size n w0 p gc oc) :
    Calls Try.prog 58 #[.slice p n cap] w fun e w' => DDP w w' e := by
  have HB0 := Lib.hid hb0
  have hsw : w0.heap.size ≤ w.heap.size := hb0.size
  have HC := Lib.hid hC
  clear hC hb0
  go_enter Try.func58, Try.ntmps58
  go_wp2_with fail
  obtain ⟨w1, hw1⟩ : ∃ xx, xx = (w.alloc (.cells #[.slice none 0 0] 69)).alloc (.cells #[.int .i64 0, .int .i64 0, .int .i64 0] 71) := ⟨_, rfl⟩
  have hb1 : Below w.heap.size w w1 := by rw [hw1]; exact ((Below.refl _ _).alloc (Nat.le_refl _) _).alloc (by simp) _
  have P1 : Hid (w1.heap[w.heap.size]? = some (.cells #[.slice none 0 0] 69 (0, 0))) := by rw [hw1]; exact (heap_old _ _ _ (by simp)).trans (heap_new _ _ _ rfl)
  have S1 : Hid (w1.heap[w.heap.size + 1]? = some (.cells #[.int .i64 0, .int .i64 0, .int .i64 0] 71 (0, 0))) := by rw [hw1]; exact heap_new _ _ _ (by simp)
  rw [← hw1]
  clear hw1
  have HB1 := Lib.hid hb1
  refine (new_any hn (Nat.le_trans hsw hb1.size) (HC.out.later (HB0.out.trans (hb1.mono hsw)) (Nat.le_refl _))).mono ?_
  rintro e w2 ⟨g, rfl, hc2, hb2, hg2⟩
  have C2 := Lib.hid hc2
  have HB2 := Lib.hid (hb1.trans (hb2.mono hb1.size))
  have P2 := Lib.hid (blk_later P1.out hb2)
  have S2 := Lib.hid (blk_later S1.out hb2)
  have hgw : w.heap.size + 1 < g := by have := blk_lt S1.out; omega
  have hg2 : g < w2.heap.size := C2.out.lt
  clear hc2 hb2 hb1 P1 S1 HB1
  go_wp2_with fail
  refine (l04AnyPolicy_any hn C2.out).mono ?_
  rintro e w3 ⟨v, rfl, pp, q, cq, gr, og, z, rfl, hqc, hq4, hF, hc3, hg3⟩
  have F3 := Lib.hid hF
  have C3 := Lib.hid hc3
  have HB3 := Lib.hid (below_cur HB2.out hg3 (by omega))
  have P3 := Lib.hid (blk_grown P2.out hg3 (by omega))
  have S3 := Lib.hid (blk_grown S2.out hg3 (by omega))
  have hs3 : w2.heap.size ≤ w3.heap.size := hg3.size
  clear hF hc3 hg3 P2 S2 HB2
  go_wp2_with fail
  obtain ⟨w4, hw4⟩ : ∃ xx, xx = w3.alloc (.cells #[.slice pp q cq] 69) := ⟨_, rfl⟩
  have b4 : Below w3.heap.size w3 w4 := by rw [hw4]; exact (Below.refl _ _).alloc (Nat.le_refl _) _
  have T4 : Hid (w4.heap[w3.heap.size]? = some (.cells #[.slice pp q cq] 69 (0, 0))) := by rw [hw4]; exact heap_new _ _ _ rfl
  rw [← hw4]
  clear hw4
  have hT3 : w3.heap.size < w4.heap.size := blk_lt T4.out
  have C4 := Lib.hid (C3.out.below b4)
  have F4 := Lib.hid (F3.out.below b4 (Nat.le_refl _))
  have HB4 := Lib.hid (HB3.out.trans (b4.mono HB3.out.size))
  have P4 := Lib.hid (blk_later P3.out b4)
  have S4 := Lib.hid (blk_later S3.out b4)
  have hs4 := b4.size
  clear b4 P3 S3 F3 HB3
  refine (l04AnyScreen_any hn C4.out).mono ?_
  rintro e w5 ⟨L, S, V, hSr, rfl, hc5, hg5⟩
  have C5 := Lib.hid hc5
  have F5 := Lib.hid (F4.out.grown hg5 hs4 (fun k hk => by injection hk with hk; omega))
  have HB5 := Lib.hid (below_cur HB4.out hg5 (by omega))
  have P5 := Lib.hid (blk_grown P4.out hg5 (by omega))
  have S5 := Lib.hid (blk_grown S4.out hg5 (by omega))
  have T5 := Lib.hid (blk_grown T4.out hg5 (by omega))
  have hs5 : w4.heap.size ≤ w5.heap.size := hg5.size
  clear hc5 hg5 P4 S4 T4 F4 HB4
  go_wp2_with fail
  obtain ⟨w6, hw6⟩ : ∃ xx, xx = w5.alloc (.cells #[.int .i64 L, .int .i64 S, .int .i64 V] 71) := ⟨_, rfl⟩
  have b6 : Below w5.heap.size w5 w6 := by rw [hw6]; exact (Below.refl _ _).alloc (Nat.le_refl _) _
  have U6 : Hid (w6.heap[w5.heap.size]? = some (.cells #[.int .i64 L, .int .i64 S, .int .i64 V] 71 (0, 0))) := by rw [hw6]; exact heap_new _ _ _ rfl
  rw [← hw6]
  clear hw6
  have C6 := Lib.hid (C5.out.below b6)
  have F6 := Lib.hid (F5.out.below b6 (by omega))
  have HB6 := Lib.hid (HB5.out.trans (b6.mono HB5.out.size))
  have P6 := Lib.hid (blk_later P5.out b6)
  have S6 := Lib.hid (blk_later S5.out b6)
  have T6 := Lib.hid (blk_later T5.out b6)
  have hs6 := b6.size
  clear b6 P5 S5 T5 F5 HB5
  obtain ⟨u0, u1, u2, -⟩ := cells3 U6.out
  go_wp2_with fail
  refine (l04Now_any hn C6.out L S V).mono ?_
  rintro e w7 ⟨x, rfl, hc7, hg7⟩
  have C7 := Lib.hid hc7
  have F7 := Lib.hid (F6.out.grown hg7 (by omega) (fun k hk => by injection hk with hk; omega))
  have HB7 := Lib.hid (below_cur HB6.out hg7 (by omega))
  have P7 := Lib.hid (blk_grown P6.out hg7 (by omega))
  have S7 := Lib.hid (blk_grown S6.out hg7 (by omega))
  have T7 := Lib.hid (blk_grown T6.out hg7 (by omega))
  have U7 := Lib.hid (blk_grown U6.out hg7 (by omega))
  have hs7 : w6.heap.size ≤ w7.heap.size := hg7.size
  clear hc7 hg7 P6 S6 T6 U6 F6 HB6 u0 u1 u2
  obtain ⟨t0, -⟩ := cells1 T7.out
  obtain ⟨u0, u1, u2, -⟩ := cells3 U7.out
  have hP5 : w.heap.size + 1 < w2.heap.size := by omega
  have hU : w5.heap.size < w7.heap.size := blk_lt U7.out
  have hTU : w3.heap.size ≠ w5.heap.size := by omega
  have hUT : w5.heap.size ≠ w3.heap.size := by omega
  have hTg : w3.heap.size ≠ g := by omega
  have hUg : w5.heap.size ≠ g := by omega
  have hT1 : w3.heap.size ≠ w.heap.size := by omega
  have hT2 : w3.heap.size ≠ w.heap.size + 1 := by omega
  have hU1 : w5.heap.size ≠ w.heap.size := by omega
  have hU2 : w5.heap.size ≠ w.heap.size + 1 := by omega
  have hne1 : w.heap.size ≠ w.heap.size + 1 := by omega
  have hne2 : w.heap.size + 1 ≠ w.heap.size := by omega
  have hT1' : w.heap.size ≠ w3.heap.size := fun h => hT1 h.symm
  have hT2' : w.heap.size + 1 ≠ w3.heap.size := fun h => hT2 h.symm
  have hU1' : w.heap.size ≠ w5.heap.size := fun h => hU1 h.symm
  have hU2' : w.heap.size + 1 ≠ w5.heap.size := fun h => hU2 h.symm
  have hPg : w.heap.size ≠ g := by omega
  have hSg : w.heap.size + 1 ≠ g := by omega
  have hg7 : g < w7.heap.size := C7.out.lt
  have hYg : w7.heap.size ≠ g := by omega
  have hDx : ∀ W : World, W.grownBy W.drew (some g) := fun W => ⟨rfl, rfl, rfl, Nat.le_refl _, fun _ _ _ => rfl⟩
  have hkeep0 : w7.cell? ⟨w3.heap.size, 0, none⟩ = some (.slice pp q cq) ∧ w7.cell? ⟨w5.heap.size, 0, none⟩ = some (.int .i64 L) ∧ w7.cell? ⟨w5.heap.size, 1, none⟩ = some (.int .i64 S) ∧ w7.cell? ⟨w5.heap.size, 2, none⟩ = some (.int .i64 V) := ⟨t0, u0, u1, u2⟩
  go_wp2_with fail
  go_region_held3 (fun K => K.cell? ⟨w3.heap.size, 0, none⟩ = some (.slice pp q cq) ∧ K.cell? ⟨w5.heap.size, 0, none⟩ = some (.int .i64 L) ∧ K.cell? ⟨w5.heap.size, 1, none⟩ = some (.int .i64 S) ∧ K.cell? ⟨w5.heap.size, 2, none⟩ = some (.int .i64 V))
    (first | exact hkeep0 | exact hkeep1 | go_keep)
    (first | (go_at_call 84; (first | ((refine (pickNew hn C7.out.drewn [0, 1, 1, 2, 2, 3, -1] 7 7 rfl (by decide) (by decide) _ rfl _).mono ?_); rintro e k1 ⟨D, hD, rfl, c1, gr1⟩; have gx : w7.grownBy k1 (some g) := (hDx _).trans gr1) | ((refine (pickAt hn (C7.out.allocd _).drewn [0, 1, 1, 2, 2, 3, -1] w7.heap.size 7 7 rfl (by decide) (by decide) hYg _ rfl _ (heap_newd w7 _)).mono ?_); rintro e k1 ⟨D, hD, rfl, c1, gr1⟩; have gx : w7.grownBy k1 (some g) := ((World.grownBy_alloc w7 _ _).trans (hDx _)).trans gr1)); have F8 := Lib.hid (F7.out.grown gx (by omega) (fun k hk => by injection hk with hk; omega)); have HB8 := Lib.hid (below_cur HB7.out gx (by omega)); have P8 := Lib.hid (blk_grown P7.out gx hPg); have S8 := Lib.hid (blk_grown S7.out gx hSg); have T8 := Lib.hid (blk_grown T7.out gx hTg); have U8 := Lib.hid (blk_grown U7.out gx hUg); have hs8 : w7.heap.size ≤ k1.heap.size := gx.size; have hkeep1 : k1.cell? ⟨w3.heap.size, 0, none⟩ = some (.slice pp q cq) ∧ k1.cell? ⟨w5.heap.size, 0, none⟩ = some (.int .i64 L) ∧ k1.cell? ⟨w5.heap.size, 1, none⟩ = some (.int .i64 S) ∧ k1.cell? ⟨w5.heap.size, 2, none⟩ = some (.int .i64 V) := ⟨(cells1 T8.out).1, (cells3 U8.out).1, (cells3 U8.out).2.1, (cells3 U8.out).2.2.1⟩; clear c1 gr1 gx hD; obtain ⟨p0, p1⟩ := cells1 P8.out; obtain ⟨r0, r1, r2, q0, q1, q2⟩ := cells3 S8.out))
  all_goals
    go_wp2_with fail
    have hsz : ∀ (W : World) (a b c d : Addr) (x1 x2 x3 x4 : Value), W.heap.size ≤ ((((W.setCell a x1).setCell b x2).setCell c x3).setCell d x4).heap.size := fun W a b c d x1 x2 x3 x4 => by simp [World.setCell]
    first
      | (have PP := blk_set (o := 0) P8.out (.slice pp q cq)
         have SS := (blk_far (w := k1) (g := w.heap.size + 1) (q := ⟨w.heap.size, 0, none⟩) (u := .slice pp q cq) hne1).trans S8.out
         refine bodyPost_ret (v := .tuple #[.agg #[.slice pp q cq], .agg #[.int .i64 L, .int .i64 S, .int .i64 V], .int .i64 x, .int .i64 D]) (by obtain ⟨y0, y1, y2⟩ := cells_res SS (.int .i64 L) (.int .i64 S) (.int .i64 V); have y3 := (cells1 PP).1; simp [results, Try.results58, go_sem, y0, y1, y2, y3]) rfl ⟨.slice pp q cq, q, z, L, S, V, x, D, hq4, hSr, rfl, ⟨pp, cq, gr, og, rfl, hqc, ((((F8.out.far (q := ⟨w.heap.size, 0, none⟩) _ (.inl (by show w.heap.size < w2.heap.size; omega))).far (q := ⟨w.heap.size + 1, 0, none⟩) _ (.inl (by show w.heap.size + 1 < w2.heap.size; omega))).far (q := ⟨w.heap.size + 1, 1, none⟩) _ (.inl (by show w.heap.size + 1 < w2.heap.size; omega))).far (q := ⟨w.heap.size + 1, 2, none⟩) _ (.inl (by show w.heap.size + 1 < w2.heap.size; omega))).wide (Nat.zero_le _) (Nat.le_trans (by omega) (hsz k1 _ _ _ _ _ _ _ _))⟩, (((HB8.out.setCell (Nat.le_refl _) _).setCell (by show w.heap.size ≤ w.heap.size + 1; omega) _).setCell (by show w.heap.size ≤ w.heap.size + 1; omega) _).setCell (by show w.heap.size ≤ w.heap.size + 1; omega) _⟩)
      | (have SS := blk_set3 S8.out (.int .i64 L) (.int .i64 S) (.int .i64 V)
         have PP := blk_set (o := 0) ((blk_far (q := ⟨w.heap.size + 1, 2, none⟩) hne2).trans ((blk_far (q := ⟨w.heap.size + 1, 1, none⟩) hne2).trans ((blk_far (q := ⟨w.heap.size + 1, 0, none⟩) hne2).trans P8.out))) (.slice pp q cq)
         refine bodyPost_ret (v := .tuple #[.agg #[.slice pp q cq], .agg #[.int .i64 L, .int .i64 S, .int .i64 V], .int .i64 x, .int .i64 D]) (by obtain ⟨y0, y1, y2⟩ := cells_res S8.out (.int .i64 L) (.int .i64 S) (.int .i64 V); have y3 := (cells1 PP).1; simp at y3; simp [results, Try.results58, go_sem, y0, y1, y2, y3]) rfl ⟨.slice pp q cq, q, z, L, S, V, x, D, hq4, hSr, rfl, ⟨pp, cq, gr, og, rfl, hqc, ((((F8.out.far (q := ⟨w.heap.size + 1, 0, none⟩) _ (.inl (by show w.heap.size + 1 < w2.heap.size; omega))).far (q := ⟨w.heap.size + 1, 1, none⟩) _ (.inl (by show w.heap.size + 1 < w2.heap.size; omega))).far (q := ⟨w.heap.size + 1, 2, none⟩) _ (.inl (by show w.heap.size + 1 < w2.heap.size; omega))).far (q := ⟨w.heap.size, 0, none⟩) _ (.inl (by show w.heap.size < w2.heap.size; omega))).wide (Nat.zero_le _) (Nat.le_trans (by omega) (hsz k1 _ _ _ _ _ _ _ _))⟩, (((HB8.out.setCell (by show w.heap.size ≤ w.heap.size + 1; omega) _).setCell (by show w.heap.size ≤ w.heap.size + 1; omega) _).setCell (by show w.heap.size ≤ w.heap.size + 1; omega) _).setCell (Nat.le_refl _) _⟩)

end Go.Proofs.Ytkdlhapbbnggoab
