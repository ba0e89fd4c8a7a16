/- Screens on their way: what is known of the blocks, and goesOn. -/
import Derived.Test.YtkdlhapbbnggoabScreenOk
import Derived.Test.YtkdlhapbbnggoabPolicyOk
import Derived.Deep.RegionHeld3
import Derived.Deep.RegionWith
import Derived.StillTailTactics
import Derived.Deep.CutRange
import Derived.IntWalk
namespace Go.Proofs.Ytkdlhapbbnggoab
open Go.RowKit
set_option linter.unusedVariables false

theorem cells3 {w : World} {k : Nat} {a b c : Value} {t : TypeId} (h : w.heap[k]? = some (.cells #[a, b, c] t (0, 0))) :
    w.cell? ⟨k, 0, none⟩ = some a ∧ w.cell? ⟨k, 1, none⟩ = some b ∧ w.cell? ⟨k, 2, none⟩ = some c ∧ w.frozen? ⟨k, 0, none⟩ = false ∧ w.frozen? ⟨k, 1, none⟩ = false ∧ w.frozen? ⟨k, 2, none⟩ = false :=
  ⟨by simp [World.cell?, h], by simp [World.cell?, h], by simp [World.cell?, h], by simp [World.frozen?, h], by simp [World.frozen?, h], by simp [World.frozen?, h]⟩
theorem cells1 {w : World} {k : Nat} {a : Value} {t : TypeId} (h : w.heap[k]? = some (.cells #[a] t (0, 0))) : w.cell? ⟨k, 0, none⟩ = some a ∧ w.frozen? ⟨k, 0, none⟩ = false :=
  ⟨by simp [World.cell?, h], by simp [World.frozen?, h]⟩

set_option maxHeartbeats 1000000 in
theorem goesOn_any (L S V now : Int) (hL : 0 ≤ L ∧ L ≤ 1000) (w : World) :
    Calls Try.prog 96 #[.agg #[.int .i64 L, .int .i64 S, .int .i64 V], .int .i64 now] w fun e w' => e = .returned (.agg #[.int .i64 (L + 1), .int .i64 now, .int .i64 V]) ∧ Below w.heap.size w w' := by
  go_enter Try.func96, Try.ntmps96
  go_wp2
  refine bodyPost_ret (v := .agg #[.int .i64 (L + 1), .int .i64 now, .int .i64 V]) (by simp [results, Try.results96, go_sem]) rfl ⟨rfl, ?_⟩
  repeat (first | exact Below.refl _ _ | refine Below.alloc ?_ (by simp <;> omega) _ | refine Below.setCell ?_ (by simp <;> omega) _ | refine Below.drew ?_)

theorem blk_lt' {W : World} {k : Nat} {o : Obj} (h : W.heap[k]? = some o) : k < W.heap.size := (Array.getElem?_eq_some_iff.1 h).1
/-- The three blocks of a call of Elapse: the policy's, the screen's, the result's. -/
def ElB (w W : World) (v : Value) (L S V : Int) (c0 c1 c2 : Int) : Prop :=
  W.heap[w.heap.size]? = some (.cells #[v] 69 (0, 0)) ∧ W.heap[w.heap.size + 1]? = some (.cells #[.int .i64 L, .int .i64 S, .int .i64 V] 71 (0, 0)) ∧ W.heap[w.heap.size + 1 + 1]? = some (.cells #[.int .i64 c0, .int .i64 c1, .int .i64 c2] 71 (0, 0)) ∧ Below w.heap.size w W
theorem ElB.later {w W W' : World} {v : Value} {L S V c0 c1 c2 : Int} (h : ElB w W v L S V c0 c1 c2) (hb : Below W.heap.size W W') : ElB w W' v L S V c0 c1 c2 := by
  obtain ⟨h1, h2, h3, h4⟩ := h
  have s3 : w.heap.size + 1 + 1 < W.heap.size := (Array.getElem?_eq_some_iff.1 h3).1
  exact ⟨(hb.block _ (by omega)).trans h1, (hb.block _ (by omega)).trans h2, (hb.block _ (by omega)).trans h3, h4.trans (hb.mono (by omega))⟩
theorem ElB.drewN {w W : World} {v : Value} {L S V c0 c1 c2 : Int} (h : ElB w W v L S V c0 c1 c2) (n : Nat) : ElB w (W.drewN n) v L S V c0 c1 c2 := ⟨h.1, h.2.1, h.2.2.1, below_drewN' h.2.2.2 n⟩
theorem ElB.start (w : World) (v : Value) (L S V : Int) : ElB w (((w.alloc (.cells #[v] 69)).alloc (.cells #[.int .i64 L, .int .i64 S, .int .i64 V] 71)).alloc (.cells #[.int .i64 0, .int .i64 0, .int .i64 0] 71)) v L S V 0 0 0 :=
  ⟨(heap_old _ _ _ (by simp <;> omega)).trans ((heap_old _ _ _ (by simp)).trans (heap_new _ _ _ rfl)), (heap_old _ _ _ (by simp)).trans (heap_new _ _ _ (by simp)), heap_new _ _ _ (by simp), by
    repeat (first | exact Below.refl _ _ | refine Below.alloc ?_ (by simp <;> omega) _)⟩
theorem ElB.cells {w W : World} {v : Value} {L S V c0 c1 c2 : Int} (h : ElB w W v L S V c0 c1 c2) : W.cell? ⟨w.heap.size, 0, none⟩ = some v ∧ W.cell? ⟨w.heap.size + 1, 0, none⟩ = some (.int .i64 L) ∧ W.cell? ⟨w.heap.size + 1, 1, none⟩ = some (.int .i64 S) ∧ W.cell? ⟨w.heap.size + 1, 2, none⟩ = some (.int .i64 V) ∧
    W.cell? ⟨w.heap.size + 1 + 1, 0, none⟩ = some (.int .i64 c0) ∧ W.cell? ⟨w.heap.size + 1 + 1, 1, none⟩ = some (.int .i64 c1) ∧ W.cell? ⟨w.heap.size + 1 + 1, 2, none⟩ = some (.int .i64 c2) ∧
    W.frozen? ⟨w.heap.size + 1, 0, none⟩ = false ∧ W.frozen? ⟨w.heap.size + 1, 1, none⟩ = false ∧ W.frozen? ⟨w.heap.size + 1, 2, none⟩ = false ∧ W.frozen? ⟨w.heap.size + 1 + 1, 0, none⟩ = false ∧ W.frozen? ⟨w.heap.size + 1 + 1, 1, none⟩ = false ∧ W.frozen? ⟨w.heap.size + 1 + 1, 2, none⟩ = false := by
  obtain ⟨h1, h2, h3, -⟩ := h
  obtain ⟨a0, -⟩ := cells1 h1
  obtain ⟨b0, b1, b2, f0, f1, f2⟩ := cells3 h2
  obtain ⟨d0, d1, d2, g0, g1, g2⟩ := cells3 h3
  exact ⟨a0, b0, b1, b2, d0, d1, d2, f0, f1, f2, g0, g1, g2⟩
theorem blk_far {w : World} {g : Nat} {q : Addr} {u : Value} (h : q.block ≠ g) : (w.setCell q u).heap[g]? = w.heap[g]? := Below.heap_setCell w q u g (fun e => h e.symm)
theorem ElB.one {w W : World} {v : Value} {L S V c0 c1 c2 : Int} (h : ElB w W v L S V c0 c1 c2) (q : Addr) (u : Value) (hq : q.block = w.heap.size + 1) (i : Nat) (hi : q.off = i) (hs : q.spot = none) (cs : Array Value) (hc : #[.int .i64 L, .int .i64 S, .int .i64 V].setIfInBounds i u = cs) :
    (W.setCell q u).heap[w.heap.size]? = some (.cells #[v] 69 (0, 0)) ∧ (W.setCell q u).heap[w.heap.size + 1]? = some (.cells cs 71 (0, 0)) ∧ (W.setCell q u).heap[w.heap.size + 1 + 1]? = some (.cells #[.int .i64 c0, .int .i64 c1, .int .i64 c2] 71 (0, 0)) ∧ Below w.heap.size w (W.setCell q u) := by
  obtain ⟨b, o, sp⟩ := q
  obtain rfl : b = w.heap.size + 1 := hq
  obtain rfl : o = i := hi
  obtain rfl : sp = none := hs
  obtain ⟨h1, h2, h3, h4⟩ := h
  exact ⟨(blk_far (by show w.heap.size + 1 ≠ _; omega)).trans h1, by rw [blk_set h2, hc], (blk_far (by show w.heap.size + 1 ≠ _; omega)).trans h3, h4.setCell (by show _ ≤ w.heap.size + 1; omega) _⟩
theorem ElB.put {w W : World} {v : Value} {L S V c0 c1 c2 : Int} (h : ElB w W v L S V c0 c1 c2) (L' S' V' : Int) :
    ElB w (((W.setCell ⟨w.heap.size + 1, 0, none⟩ (.int .i64 L')).setCell ⟨w.heap.size + 1, 1, none⟩ (.int .i64 S')).setCell ⟨w.heap.size + 1, 2, none⟩ (.int .i64 V')) v L' S' V' c0 c1 c2 := by
  have h1 : ElB w (W.setCell ⟨w.heap.size + 1, 0, none⟩ (.int .i64 L')) v L' S V c0 c1 c2 := h.one _ _ rfl 0 rfl rfl _ rfl
  have h2 : ElB w ((W.setCell ⟨w.heap.size + 1, 0, none⟩ (.int .i64 L')).setCell ⟨w.heap.size + 1, 1, none⟩ (.int .i64 S')) v L' S' V c0 c1 c2 := h1.one _ _ rfl 1 rfl rfl _ rfl
  exact h2.one _ _ rfl 2 rfl rfl _ rfl
theorem ElB.put2 {w W : World} {v : Value} {L S V c0 c1 c2 : Int} (h : ElB w W v L S V c0 c1 c2) (L' S' : Int) :
    ElB w ((W.setCell ⟨w.heap.size + 1, 1, none⟩ (.int .i64 S')).setCell ⟨w.heap.size + 1, 0, none⟩ (.int .i64 L')) v L' S' V c0 c1 c2 := by
  have h1 : ElB w (W.setCell ⟨w.heap.size + 1, 1, none⟩ (.int .i64 S')) v L S' V c0 c1 c2 := h.one _ _ rfl 1 rfl rfl _ rfl
  exact h1.one _ _ rfl 0 rfl rfl _ rfl
theorem ElB.far {w W : World} {v : Value} {L S V c0 c1 c2 : Int} (h : ElB w W v L S V c0 c1 c2) (q : Addr) (u : Value) (hq : w.heap.size + 1 + 1 < q.block) : ElB w (W.setCell q u) v L S V c0 c1 c2 := by
  obtain ⟨h1, h2, h3, h4⟩ := h
  exact ⟨(blk_far (by omega)).trans h1, (blk_far (by omega)).trans h2, (blk_far (by omega)).trans h3, h4.setCell (by omega) _⟩
theorem below_res {w W : World} (h : Below w.heap.size w W) (b : Nat) (hb : w.heap.size ≤ b) (x y z : Value) : Below w.heap.size w (((W.setCell ⟨b, 0, none⟩ x).setCell ⟨b, 1, none⟩ y).setCell ⟨b, 2, none⟩ z) :=
  ((h.setCell hb _).setCell hb _).setCell hb _
theorem cells_res {w : World} {k : Nat} {a b c : Value} {t : TypeId} (h : w.heap[k]? = some (.cells #[a, b, c] t (0, 0))) (x y z : Value) :
    (w.setCell ⟨k, 0, none⟩ x).cell? ⟨k, 0, none⟩ = some x ∧ ((w.setCell ⟨k, 0, none⟩ x).setCell ⟨k, 1, none⟩ y).cell? ⟨k, 1, none⟩ = some y ∧ (((w.setCell ⟨k, 0, none⟩ x).setCell ⟨k, 1, none⟩ y).setCell ⟨k, 2, none⟩ z).cell? ⟨k, 2, none⟩ = some z := by
  have h0 := blk_set (o := 0) h x
  have h1 := blk_set (o := 1) h0 y
  have h2 := blk_set (o := 2) h1 z
  exact ⟨by rw [cell_of_row _ _ _ _ _ _ h0]; rfl, by rw [cell_of_row _ _ _ _ _ _ h1]; rfl, by rw [cell_of_row _ _ _ _ _ _ h2]; rfl⟩

end Go.Proofs.Ytkdlhapbbnggoab
