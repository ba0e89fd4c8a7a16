/- Rows of cells in memory: what a slice holds, in which blocks, and what keeps it. -/
import Derived.WalkKit
import Derived.ProofKit
import Derived.Below
import Derived.Lib.Hide
import Derived.Laws.OwnMore
import Derived.Deep.Draws
import Derived.Deep.AppendLies
import Derived.Laws.IdiomRangeMap
namespace Go.Proofs.Ytnkhjlpeeljelaa
open Go.RowKit

/-- A slice's address p is that of block g (lo ≤ g < hi) from place o on, and m cells hold f. -/
def FlatAt (w : World) (lo hi : Nat) (p : Option Addr) (g o m : Nat) (f : Nat → Value) : Prop :=
  (0 < m → p = some ⟨g, o, none⟩ ∧ lo ≤ g ∧ g < hi) ∧ ∀ j, j < m → w.cell? ⟨g, o + j, none⟩ = some (f j)
/-- They may be written. -/
def FreeAt (w : World) (g o m : Nat) : Prop := ∀ j, j < m → w.frozen? ⟨g, o + j, none⟩ = false

section
variable {w w' : World} {lo hi lo' hi' : Nat} {p : Option Addr} {g o m : Nat} {f f' : Nat → Value}
theorem FlatAt.keep (h : FlatAt w lo hi p g o m f) (hk : ∀ k, lo ≤ k → k < hi → w'.heap[k]? = w.heap[k]?) : FlatAt w' lo hi p g o m f :=
  ⟨h.1, fun j hj => (World.cell?_of_block (a := ⟨g, o + j, none⟩) (hk g (h.1 (by omega)).2.1 (h.1 (by omega)).2.2)).trans (h.2 j hj)⟩
theorem FlatAt.below {B : Nat} (h : FlatAt w lo hi p g o m f) (hb : Below B w w') (hB : hi ≤ B) : FlatAt w' lo hi p g o m f :=
  h.keep fun k _ hk => hb.block k (by omega)
theorem FlatAt.grown {row : Option Nat} (h : FlatAt w lo hi p g o m f) (hb : w.grownBy w' row) (hB : hi ≤ w.heap.size) (hr : ∀ k, row = some k → k < lo ∨ hi ≤ k) : FlatAt w' lo hi p g o m f :=
  h.keep fun k h1 h2 => hb.block k (by omega) (fun e => by have := hr k e.symm; omega)
theorem FlatAt.wide (h : FlatAt w lo hi p g o m f) (h1 : lo' ≤ lo) (h2 : hi ≤ hi') : FlatAt w lo' hi' p g o m f :=
  ⟨fun hm => ⟨(h.1 hm).1, by have := (h.1 hm).2.1; omega, by have := (h.1 hm).2.2; omega⟩, h.2⟩
theorem FlatAt.congr (h : FlatAt w lo hi p g o m f) (he : ∀ j, j < m → f j = f' j) : FlatAt w lo hi p g o m f' :=
  ⟨h.1, fun j hj => by rw [h.2 j hj, he j hj]⟩
theorem FlatAt.drew (h : FlatAt w lo hi p g o m f) : FlatAt w.drew lo hi p g o m f := h
theorem FlatAt.lt (h : FlatAt w lo hi p g o m f) (hm : 0 < m) : g < w.heap.size := by
  have h1 := h.2 0 hm
  rcases Nat.lt_or_ge g w.heap.size with h2 | h2
  · exact h2
  · unfold World.cell? at h1
    rw [Array.getElem?_eq_none (by show _ ≤ g; omega)] at h1
    simp at h1
theorem FlatAt.zero (w : World) (lo hi : Nat) (p : Option Addr) (g o : Nat) (f : Nat → Value) : FlatAt w lo hi p g o 0 f := ⟨fun h => absurd h (by omega), fun j hj => absurd hj (by omega)⟩
theorem FreeAt.keep (h : FreeAt w g o m) (hk : w'.heap[g]? = w.heap[g]?) : FreeAt w' g o m :=
  fun j hj => (World.frozen?_of_block (a := ⟨g, o + j, none⟩) hk).trans (h j hj)
theorem FreeAt.below {B : Nat} (h : FreeAt w g o m) (hb : Below B w w') (hB : 0 < m → g < B) : FreeAt w' g o m := fun j hj => (hb.frozen (p := ⟨g, o + j, none⟩) (hB (by omega))).trans (h j hj)
theorem FreeAt.grown {row : Option Nat} (h : FreeAt w g o m) (hb : w.grownBy w' row) (hg : 0 < m → g < w.heap.size ∧ some g ≠ row) : FreeAt w' g o m :=
  fun j hj => (World.frozen?_of_block (a := ⟨g, o + j, none⟩) (hb.block g (hg (by omega)).1 (hg (by omega)).2)).trans (h j hj)
end

theorem keep_below {B : Nat} {w w' : World} (hb : Below B w w') (k : Nat) (hk : k < B) : w'.heap[k]? = w.heap[k]? := hb.block k hk
theorem grownBy.of_below {a w : World} (h : Below a.heap.size a w) (row : Option Nat) : a.grownBy w row := ⟨h.os, h.tape, h.output, h.size, fun i hi _ => h.block i hi⟩
theorem grown_setCell {a w : World} {g : Nat} (h : a.grownBy w (some g)) {p : Addr} (hp : p.block = g ∨ a.heap.size ≤ p.block) (u : Value) : a.grownBy (w.setCell p u) (some g) :=
  ⟨h.os, h.tape, h.output, by simpa [World.setCell] using h.size, fun i hi hne => (Below.heap_setCell w p u i (by
    rintro rfl
    rcases hp with hp | hp
    · exact hne (by rw [hp])
    · omega)).trans (h.block i hi hne)⟩
theorem grown_trans2 {a b c : World} {r : Option Nat} (h : a.grownBy b r) (k : b.grownBy c r) : a.grownBy c r :=
  ⟨k.os.trans h.os, k.tape.trans h.tape, k.output.trans h.output, Nat.le_trans h.size k.size, fun i hi hne => (k.block i (Nat.lt_of_lt_of_le hi h.size) hne).trans (h.block i hi hne)⟩
theorem grown_below {a b c : World} {r : Option Nat} (h : a.grownBy b r) (k : Below b.heap.size b c) : a.grownBy c r := grown_trans2 h (grownBy.of_below k r)
theorem below_grown {a b : World} {B : Nat} {r : Option Nat} (h : a.grownBy b r) (hB : B ≤ a.heap.size) (hr : ∀ k, r = some k → B ≤ k) : Below B a b := (Below.refl B a).grown h hB hr

/-- A cell behind a store. -/
theorem cell_set {w : World} {g i j : Nat} {u x : Value} (h : w.cell? ⟨g, i, none⟩ = some x) : (w.setCell ⟨g, i, none⟩ u).cell? ⟨g, j, none⟩ = if j = i then some u else w.cell? ⟨g, j, none⟩ := by
  by_cases e : j = i
  · subst e
    rw [if_pos rfl]
    exact World.cell?_setCell_same w _ _ h
  · rw [if_neg e]
    exact World.cell?_setCell_other w _ _ _ (by intro he; injection he with _ h2 _; exact e h2.symm)
theorem frozen_set {w : World} {p q : Addr} {u : Value} : (w.setCell p u).frozen? q = w.frozen? q := World.frozen?_setCell w _ _ _

/-- A new row. -/
theorem FlatAt.of_own {w : World} {B : Nat} {e : TypeId} {size n c : Nat} {p : Option Addr} {xs : List Value} {f : Nat → Value} (h : w.ownsRow B e size (.slice p n c) n xs) (hf : ∀ j, j < n * size → xs[j]? = some (f j)) :
    ∃ g, FlatAt w B w.heap.size p g 0 (n * size) f ∧ FreeAt w g 0 (n * size) := by
  rcases h.2 with ⟨h1, h2⟩ | ⟨g, cap, cur, h1, hb, hh, -⟩
  · subst h2
    exact ⟨0, by rw [Nat.zero_mul]; exact FlatAt.zero _ _ _ _ _ _ _, fun j hj => absurd hj (by omega)⟩
  · injection h1 with h3 h4 h5
    subst h3
    refine ⟨g, ⟨fun _ => ⟨rfl, hb, (Array.getElem?_eq_some_iff.1 hh).1⟩, fun j hj => ?_⟩, fun j hj => ?_⟩
    · rw [Nat.zero_add, h.cellAt j hj, hf j hj]
    · rw [Nat.zero_add]; exact h.frozenAt j

theorem frozen_of_row (w : World) (g i : Nat) (cs : Array Value) (t : TypeId) (h : w.heap[g]? = some (.cells cs t (0, 0))) : w.frozen? ⟨g, i, none⟩ = false := by simp [World.frozen?, h]

theorem blk_set {w : World} {g o : Nat} {cs : Array Value} {t : TypeId} (h : w.heap[g]? = some (.cells cs t (0, 0))) (v : Value) : (w.setCell ⟨g, o, none⟩ v).heap[g]? = some (.cells (cs.setIfInBounds o v) t (0, 0)) := by
  simp [World.setCell, Array.getElem?_modify, h]

theorem FlatAt.set {w : World} {lo hh : Nat} {p : Option Addr} {g o m : Nat} {f : Nat → Value} {u : Value} (h : FlatAt w lo hh p g o m f) (i : Nat) (hi : i < m) :
    FlatAt (w.setCell ⟨g, o + i, none⟩ u) lo hh p g o m (fun j => if j = i then u else f j) :=
  ⟨h.1, fun j hj => by
    rw [cell_set (h.2 i hi)]
    show _ = some (if j = i then u else f j)
    by_cases e : j = i
    · rw [if_pos (by omega), if_pos e]
    · rw [if_neg (by omega), if_neg e]; exact h.2 j hj⟩
theorem FreeAt.set {w : World} {g o m : Nat} (h : FreeAt w g o m) (p : Addr) (u : Value) : FreeAt (w.setCell p u) g o m := fun j hj => frozen_set.trans (h j hj)

theorem FlatAt.int {w : World} {lo hh : Nat} {p : Option Addr} {g o m : Nat} {z : Nat → Int} (h : FlatAt w lo hh p g o m (fun j => .int .i64 (z j))) (j : Nat) (hj : j < m) : w.cell? ⟨g, o + j, none⟩ = some (.int .i64 (z j)) := h.2 j hj

theorem FlatAt.far {w : World} {lo hh : Nat} {p : Option Addr} {g o m : Nat} {f : Nat → Value} (h : FlatAt w lo hh p g o m f) {q : Addr} (u : Value) (hq : q.block < lo ∨ hh ≤ q.block) : FlatAt (w.setCell q u) lo hh p g o m f :=
  h.keep fun k h1 h2 => Below.heap_setCell w q u k (by omega)

/-- Below over a world in between. -/
theorem below_via {B : Nat} {w W w2 : World} (h2 : Below W.heap.size W w2) (h1 : Below B w W) : B ≤ W.heap.size → Below B w w2 := fun hB => h1.trans (h2.mono hB)

theorem FlatAt.at3 {w w' : World} {lo hh : Nat} {p : Option Addr} {g o m : Nat} {z : Nat → Int} (h : FlatAt w lo hh p g o m (fun j => .int .i64 (z j))) {B : Nat} (hb : Below B w w') (hB : hh ≤ B) (k : Nat) (hk : k * 3 + 2 < m) :
    w'.cell? ⟨g, o + k * 3, none⟩ = some (.int .i64 (z (k * 3))) ∧ w'.cell? ⟨g, o + k * 3 + 1, none⟩ = some (.int .i64 (z (k * 3 + 1))) ∧ w'.cell? ⟨g, o + k * 3 + 2, none⟩ = some (.int .i64 (z (k * 3 + 2))) :=
  ⟨(h.below hb hB).2 (k * 3) (by omega), (h.below hb hB).2 (k * 3 + 1) (by omega), (h.below hb hB).2 (k * 3 + 2) (by omega)⟩
theorem FlatAt.at2 {w w' : World} {lo hh : Nat} {p : Option Addr} {g o m : Nat} {z : Nat → Int} (h : FlatAt w lo hh p g o m (fun j => .int .i64 (z j))) {B : Nat} (hb : Below B w w') (hB : hh ≤ B) (k : Nat) (hk : k * 2 + 1 < m) :
    w'.cell? ⟨g, o + k * 2, none⟩ = some (.int .i64 (z (k * 2))) ∧ w'.cell? ⟨g, o + k * 2 + 1, none⟩ = some (.int .i64 (z (k * 2 + 1))) :=
  ⟨(h.below hb hB).2 (k * 2) (by omega), (h.below hb hB).2 (k * 2 + 1) (by omega)⟩
theorem below_drewN' {B : Nat} {a w : World} (h : Below B a w) (n : Nat) : Below B a (w.drewN n) := ⟨h.os, h.tape, h.output, h.size, h.block⟩

theorem FlatAt.less {w : World} {lo hh : Nat} {p : Option Addr} {g o m m' : Nat} {f : Nat → Value} (h : FlatAt w lo hh p g o m f) (hm : m' ≤ m) : FlatAt w lo hh p g o m' f :=
  ⟨fun h0 => h.1 (by omega), fun j hj => h.2 j (by omega)⟩

theorem heap_new (w : World) (o : Obj) (k : Nat) (h : k = w.heap.size) : (w.alloc o).heap[k]? = some o := by rw [h]; exact heap_alloc_new w o

theorem heap_old (w : World) (o : Obj) (k : Nat) (h : k < w.heap.size) : (w.alloc o).heap[k]? = w.heap[k]? := Below.heap_alloc w o k h
theorem grown_set1 (w : World) (g o : Nat) (v : Value) : w.grownBy (w.setCell ⟨g, o, none⟩ v) (some g) :=
  ⟨rfl, rfl, rfl, by simp [World.setCell], fun k _ hne => Below.heap_setCell _ _ _ _ (by intro e; exact hne (by rw [e]))⟩
theorem own_ne {w : World} {B : Nat} {e : TypeId} {size n b : Nat} {v : Value} {xs : List Value} {cs : Array Value} {t : TypeId} {fr : Nat × Nat} (h : w.ownsRow B e size v n xs) (hb : w.heap[b]? = some (.cells cs t fr)) (hne : e ≠ t) : v.ownBlock ≠ some b := by
  rcases h.2 with ⟨rfl, _⟩ | ⟨g, cap, cur, rfl, _, hh, _⟩
  · simp [Value.ownBlock]
  · intro he
    obtain rfl : g = b := by simpa [Value.ownBlock] using he
    rw [hh] at hb
    injection hb with hb
    injection hb with _ ht
    exact hne ht

/-- A row of m integers made from block B on, that may be written. -/
def RowNew (w : World) (B : Nat) (p : Option Addr) (m : Nat) (z : Nat → Int) : Prop := ∃ g o, FlatAt w B w.heap.size p g o m (fun j => .int .i64 (z j)) ∧ FreeAt w g o m
section
variable {w w' : World} {B B' : Nat} {p : Option Addr} {m : Nat} {z z' : Nat → Int}
theorem RowNew.keep (h : RowNew w B p m z) (hk : ∀ k, B ≤ k → k < w.heap.size → w'.heap[k]? = w.heap[k]?) (hs : w.heap.size ≤ w'.heap.size) : RowNew w' B p m z := by
  obtain ⟨g, o, h1, h2⟩ := h
  exact ⟨g, o, (h1.keep hk).wide (Nat.le_refl _) hs, fun j hj => (World.frozen?_of_block (a := ⟨g, o + j, none⟩) (hk g (h1.1 (by omega)).2.1 (h1.1 (by omega)).2.2)).trans (h2 j hj)⟩
theorem RowNew.below (h : RowNew w B p m z) (hb : Below w.heap.size w w') : RowNew w' B p m z := h.keep (fun k _ hk => hb.block k hk) hb.size
theorem RowNew.far (h : RowNew w B p m z) {q : Addr} (u : Value) (hq : q.block < B) : RowNew (w.setCell q u) B p m z := h.keep (fun k hk _ => Below.heap_setCell w q u k (by omega)) (by simp [World.setCell])
theorem RowNew.wide (h : RowNew w B p m z) (hB : B' ≤ B) : RowNew w B' p m z := by
  obtain ⟨g, o, h1, h2⟩ := h
  exact ⟨g, o, h1.wide hB (Nat.le_refl _), h2⟩
theorem RowNew.congr (h : RowNew w B p m z) (he : ∀ j, j < m → z j = z' j) : RowNew w B p m z' := by
  obtain ⟨g, o, h1, h2⟩ := h
  exact ⟨g, o, h1.congr (fun j hj => by rw [he j hj]), h2⟩
theorem RowNew.of_flat {lo hi g o : Nat} (h1 : FlatAt w lo hi p g o m (fun j => .int .i64 (z j))) (h2 : FreeAt w g o m) (hl : B ≤ lo) (hh : hi ≤ w.heap.size) : RowNew w B p m z := ⟨g, o, h1.wide hl hh, h2⟩
end
theorem cells4 {w : World} {k : Nat} {a b c d : Value} {t : TypeId} (h : w.heap[k]? = some (.cells #[a, b, c, d] t (0, 0))) :
    w.cell? ⟨k, 0, none⟩ = some a ∧ w.cell? ⟨k, 1, none⟩ = some b ∧ w.cell? ⟨k, 2, none⟩ = some c ∧ w.cell? ⟨k, 3, none⟩ = some d ∧ w.frozen? ⟨k, 0, none⟩ = false ∧ w.frozen? ⟨k, 1, none⟩ = false ∧ w.frozen? ⟨k, 2, none⟩ = false ∧ w.frozen? ⟨k, 3, none⟩ = false :=
  ⟨by simp [World.cell?, h], by simp [World.cell?, h], by simp [World.cell?, h], by simp [World.cell?, h], by simp [World.frozen?, h], by simp [World.frozen?, h], by simp [World.frozen?, h], by simp [World.frozen?, h]⟩

/-- What lay outside the blocks lo .. hi is as it was. -/
structure Touch (lo hi : Nat) (w w' : World) : Prop where
  os : w'.os = w.os
  tape : w'.tape = w.tape
  output : w'.output = w.output
  size : w.heap.size ≤ w'.heap.size
  block : ∀ k, k < w.heap.size → k < lo ∨ hi ≤ k → w'.heap[k]? = w.heap[k]?
theorem Touch.refl (lo hi : Nat) (w : World) : Touch lo hi w w := ⟨rfl, rfl, rfl, Nat.le_refl _, fun _ _ _ => rfl⟩
theorem Touch.trans {lo hi : Nat} {a b c : World} (h : Touch lo hi a b) (k : Touch lo hi b c) : Touch lo hi a c :=
  ⟨k.os.trans h.os, k.tape.trans h.tape, k.output.trans h.output, Nat.le_trans h.size k.size, fun i hi hr => (k.block i (Nat.lt_of_lt_of_le hi h.size) hr).trans (h.block i hi hr)⟩
theorem Touch.of_grown {lo hi : Nat} {w w' : World} {row : Option Nat} (h : w.grownBy w' row) (hr : ∀ k, k < w.heap.size → k < lo ∨ hi ≤ k → some k ≠ row) : Touch lo hi w w' := ⟨h.os, h.tape, h.output, h.size, fun k hk ho => h.block k hk (hr k hk ho)⟩
theorem Touch.of_below {lo hi : Nat} {w w' : World} (h : Below w.heap.size w w') : Touch lo hi w w' := ⟨h.os, h.tape, h.output, h.size, fun k hk _ => h.block k hk⟩
theorem Touch.below {lo hi B : Nat} {w w' : World} (h : Touch lo hi w w') (hB : B ≤ lo) (hs : B ≤ w.heap.size) : Below B w w' := ⟨h.os, h.tape, h.output, h.size, fun k hk => h.block k (by omega) (.inl (by omega))⟩
theorem Touch.wide {lo hi lo' hi' : Nat} {w w' : World} (h : Touch lo hi w w') (h1 : lo' ≤ lo) (h2 : hi ≤ hi') : Touch lo' hi' w w' := ⟨h.os, h.tape, h.output, h.size, fun k hk hr => h.block k hk (by omega)⟩

theorem FlatAt.touch {w w' : World} {lo hh a b : Nat} {p : Option Addr} {g o m : Nat} {f : Nat → Value} (h : FlatAt w lo hh p g o m f) (t : Touch a b w w') (hs : hh ≤ w.heap.size) (hd : hh ≤ a ∨ b ≤ lo) : FlatAt w' lo hh p g o m f :=
  h.keep fun k h1 h2 => t.block k (by omega) (by omega)
theorem FreeAt.touch {w w' : World} {lo hh a b : Nat} {p : Option Addr} {g o m : Nat} {f : Nat → Value} (hf : FreeAt w g o m) (h : FlatAt w lo hh p g o m f) (t : Touch a b w w') (hs : hh ≤ w.heap.size) (hd : hh ≤ a ∨ b ≤ lo) : FreeAt w' g o m := fun j hj => by
  have := h.1 (by omega)
  exact (World.frozen?_of_block (a := ⟨g, o + j, none⟩) (t.block g (by omega) (by omega))).trans (hf j hj)
theorem RowNew.row {w : World} {B : Nat} {p : Option Addr} {m : Nat} {z : Nat → Int} (h : RowNew w B p m z) : ∃ g o, FlatAt w B w.heap.size p g o m (fun j => .int .i64 (z j)) ∧ FreeAt w g o m := h

end Go.Proofs.Ytnkhjlpeeljelaa
