/- Serve's two rows: the times from which the operators are free, and what has been told. -/
import Derived.Test.YtkdlhapbbnggoaaServeOk
import Derived.Test.YtkdlhapbbnggoaaMinIdx
import Derived.Test.YtkdlhapbbnggoaaToInts
import Derived.Test.YtkdlhapbbnggoaaBlk
import Derived.Deep.AppendLies
import Derived.Deep.RegionHeld3
import Derived.StillTailTactics
namespace Go.Proofs.Ytkdlhapbbnggoaa
open Go.RowKit
set_option linter.unusedVariables false

def FreS (W : World) (F m : Nat) (f : Nat → Int) : Prop := ∃ cur : Array Value, W.heap[F]? = some (.cells cur 3 (0, 0)) ∧ cur.size = m ∧ ∀ j, j < m → cur[j]? = some (.int .i64 (f j))
def OutS (W : World) (B F g cap k : Nat) (q : Nat → Int) : Prop := W.ownsRow B 3 1 (.slice (some ⟨g, 0, none⟩) k cap) k ((List.range k).map fun i => Value.int .i64 (q i)) ∧ g ≠ F
section
variable {w W W' : World} {B F g cap k m : Nat} {f q : Nat → Int}
theorem FreS.cell (h : FreS W F m f) (j : Nat) (hj : j < m) : W.cell? ⟨F, j, none⟩ = some (.int .i64 (f j)) := by
  obtain ⟨cur, h1, -, h3⟩ := h
  rw [cell_of_row _ _ _ _ _ _ h1]; exact h3 j hj
theorem FreS.free (h : FreS W F m f) (j : Nat) : W.frozen? ⟨F, j, none⟩ = false := by
  obtain ⟨cur, h1, -, -⟩ := h
  exact frozen_of_row _ _ _ _ _ h1
theorem FreS.lt (h : FreS W F m f) : F < W.heap.size := by
  obtain ⟨cur, h1, -, -⟩ := h
  exact blk_lt h1
theorem FreS.keep (h : FreS W F m f) (hk : W'.heap[F]? = W.heap[F]?) : FreS W' F m f := by
  obtain ⟨cur, h1, h2, h3⟩ := h
  exact ⟨cur, hk.trans h1, h2, h3⟩
theorem FreS.alloc (h : FreS W F m f) (o : Obj) : FreS (W.alloc o) F m f := h.keep (heap_old _ _ _ h.lt)
theorem FreS.set (h : FreS W F m f) (i : Nat) (hi : i < m) (x : Int) : FreS (W.setCell ⟨F, i, none⟩ (.int .i64 x)) F m (fun j => if j = i then x else f j) := by
  obtain ⟨cur, h1, h2, h3⟩ := h
  refine ⟨_, blk_set h1 _, by simpa using h2, fun j hj => ?_⟩
  by_cases e : j = i
  · subst e; simp [h2, hj]
  · rw [Array.getElem?_setIfInBounds, if_neg (fun h => e h.symm)]
    show _ = some (Value.int .i64 (if j = i then x else f j))
    rw [if_neg e]; exact h3 j hj
theorem FreS.congr {f' : Nat → Int} (h : FreS W F m f) (he : ∀ j, f j = f' j) : FreS W F m f' := by
  rw [show f' = f from funext fun j => (he j).symm]; exact h
theorem OutS.keep (h : OutS W B F g cap k q) (hk : W'.heap[g]? = W.heap[g]?) : OutS W' B F g cap k q := by
  obtain ⟨⟨h1, h2⟩, h3⟩ := h
  refine ⟨⟨h1, ?_⟩, h3⟩
  rcases h2 with h2 | ⟨g1, c1, cur, e, h4, h5, h6⟩
  · exact .inl h2
  · injection e with e1 e2 e3
    injection e1 with e1
    injection e1 with e1
    subst e1
    exact .inr ⟨g, c1, cur, by rw [e3], h4, hk.trans h5, h6⟩
theorem OutS.lt (h : OutS W B F g cap k q) : B ≤ g ∧ g < W.heap.size := h.1.lt g rfl
theorem OutS.alloc (h : OutS W B F g cap k q) (o : Obj) : OutS (W.alloc o) B F g cap k q := h.keep (heap_old _ _ _ h.lt.2)
theorem OutS.set (h : OutS W B F g cap k q) (i : Nat) (u : Value) : OutS (W.setCell ⟨F, i, none⟩ u) B F g cap k q := h.keep (Below.heap_setCell W _ u g h.2)
theorem made_at (m j : Nat) (hj : j < m) : (madeCells (Value.int .i64 0).cells m)[j]? = some (.int .i64 0) := by
  have h : (madeCells #[Value.int .i64 0] m).toList[j]? = some (.int .i64 0) := by rw [toList_madeCells_one, List.getElem?_replicate, if_pos hj]
  rw [Array.getElem?_toList] at h
  exact h
/-- One number more. -/
theorem OutS.push (hO : OutS W B F g cap k q) (hF : FreS W F m f) (hb : Below B w W) (hB : B ≤ W.heap.size) {o : Obj} {g' cap' : Nat} {W3 : World} (x : Int) (hx : q k = x)
    (hown : W3.ownsRow B 3 1 (.slice (some ⟨g', 0, none⟩) (k + 1) cap') (k + 1) (((List.range k).map fun i => Value.int .i64 (q i)) ++ [.int .i64 x])) (hgrow : (W.alloc o).grownBy W3 (Value.slice (some ⟨g, 0, none⟩) k cap).ownBlock)
    (hat : (Value.slice (some ⟨g, 0, none⟩) k cap).ownBlock = some g' ∨ g' = W.heap.size + 1) : OutS W3 B F g' cap' (k + 1) q ∧ FreS W3 F m f ∧ Below B w W3 := by
  refine ⟨⟨?_, ?_⟩, ?_, ?_⟩
  · rw [List.range_succ, List.map_append, List.map_singleton, hx]; exact hown
  · rcases hat with h | h
    · have : g = g' := by simpa [Value.ownBlock] using h
      rw [← this]; exact hO.2
    · have := hF.lt; omega
  · refine (hF.alloc o).keep (hgrow.block F (by simp; have := hF.lt; omega) ?_)
    intro e
    have : F = g := by simpa [Value.ownBlock] using e
    exact hO.2 this.symm
  · refine (hb.alloc hB o).grown hgrow (by simp; omega) (fun j hj => ?_)
    have : g = j := by simpa [Value.ownBlock] using hj
    rw [← this]; exact hO.lt.1
end

end Go.Proofs.Ytkdlhapbbnggoaa
