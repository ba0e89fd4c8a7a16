/- Blocks of bytes, and their texts. -/
import Derived.Test.YtopkdkehkdhmgabDoorDraw
import Derived.Lib.OthersKept
import Derived.Lib.ConvBytes
import Derived.Laws.IdiomStrings
namespace Go.Proofs.YtopkdkehkdhmgabDoor
open Go.RowKit
set_option linter.unusedVariables false

/-- Block g holds m bytes, and they may be written. -/
def Bytes (m : Nat) (w : World) (g : Nat) : Prop := g < w.heap.size ∧ ∀ j, j < m → (∃ x : UInt8, w.cell? ⟨g, j, none⟩ = some (.int .u8 (x.toNat : Int))) ∧ w.frozen? ⟨g, j, none⟩ = false
theorem Bytes.kept {m : Nat} {w w' : World} {g : Nat} (h : Bytes m w g) (hs : w.heap.size ≤ w'.heap.size) (hg : w'.heap[g]? = w.heap[g]?) : Bytes m w' g :=
  ⟨Nat.lt_of_lt_of_le h.1 hs, fun j hj => ⟨by obtain ⟨x, hx⟩ := (h.2 j hj).1; exact ⟨x, (World.cell?_of_block (a := ⟨g, j, none⟩) hg).trans hx⟩, (World.frozen?_of_block (a := ⟨g, j, none⟩) hg).trans (h.2 j hj).2⟩⟩
theorem Bytes.grown {m : Nat} {w w' : World} {g q : Nat} (h : Bytes m w g) (hg : w.grownBy w' (some q)) (hne : g ≠ q) : Bytes m w' g := h.kept hg.size (hg.block g h.1 (by intro e; injection e with e; exact hne e))
theorem Bytes.set {m : Nat} {w : World} {g : Nat} (h : Bytes m w g) (i : Nat) (x : UInt8) (hi : i < m) : Bytes m (w.setCell ⟨g, i, none⟩ (.int .u8 (x.toNat : Int))) g := by
  refine ⟨by simpa [World.setCell] using h.1, fun j hj => ⟨?_, by rw [World.frozen?_setCell]; exact (h.2 j hj).2⟩⟩
  by_cases e : i = j
  · subst e
    obtain ⟨y, hy⟩ := (h.2 i hi).1
    exact ⟨x, World.cell?_setCell_same w _ _ hy⟩
  · obtain ⟨y, hy⟩ := (h.2 j hj).1
    exact ⟨y, by rw [World.cell?_setCell_other w _ _ _ (by intro q; injection q with _ q2 _; exact e q2)]; exact hy⟩
theorem Bytes.of_string (w : World) (e : TypeId) (s : ByteArray) : Bytes s.size (Lib.bytesWorld w e s) w.heap.size := by
  refine ⟨by rw [Lib.bytesWorld_size]; omega, fun j hj => ⟨⟨s.data.toList.getD j 0, Lib.bytesWorld_cell w e s j (by omega)⟩, ?_⟩⟩
  have hbw := Lib.bytesWorld_at_new w e s
  have hsz : s.size ≤ (Lib.bytesCells w e s).size := by
    unfold Lib.bytesCells
    rw [Array.size_append, Array.size_map]
    have : s.data.size = s.size := rfl
    omega
  simp only [World.frozen?, hbw]
  simp
  omega
/-- The text of such a block. -/
theorem Bytes.conv {P : Program} {T S E : TypeId} (hT : P.underlying T = some (.slice E)) (hE : P.underlying E = some (.int .u8)) (hS : P.underlying S = some .string) {m : Nat} {w : World} {g : Nat} (h : Bytes m w g) (cap : Nat) :
    ∃ s : ByteArray, s.size = m ∧ ∀ W : World, W.heap[g]? = w.heap[g]? → (convert T S (.slice (some ⟨g, 0, none⟩) m cap)).run P W = .ok (.string s) W := by
  have hl : ∃ l : List UInt8, l.length = m ∧ ∀ j (hj : j < l.length), w.cell? ⟨g, j, none⟩ = some (.int .u8 (l[j].toNat : Int)) := by
    have : ∀ k, k ≤ m → ∃ l : List UInt8, l.length = k ∧ ∀ j (hj : j < l.length), w.cell? ⟨g, j, none⟩ = some (.int .u8 (l[j].toNat : Int)) := by
      intro k
      induction k with
      | zero => intro _; exact ⟨[], rfl, fun j hj => absurd hj (by simp)⟩
      | succ k ih =>
        intro hk
        obtain ⟨l, h1, h2⟩ := ih (by omega)
        obtain ⟨x, hx⟩ := (h.2 k (by omega)).1
        refine ⟨l ++ [x], by simp [h1], fun j hj => ?_⟩
        by_cases e : j < l.length
        · rw [List.getElem_append_left e]; exact h2 j e
        · have : j = k := by simp [h1] at hj; omega
          subst this
          rw [List.getElem_append_right (by omega)]
          simpa [h1] using hx
    exact this m (Nat.le_refl _)
  obtain ⟨l, h1, h2⟩ := hl
  refine ⟨⟨l.toArray⟩, by show l.toArray.size = m; simpa using h1, fun W hW => ?_⟩
  have := run_convert_bytes_back (P := P) W T S E ⟨g, 0, none⟩ cap l hT hE hS (fun j hj => by
    rw [show (⟨g, 0, none⟩ : Addr).add j = ⟨g, j, none⟩ by unfold Addr.add; split <;> simp_all]
    rw [World.cell?_of_block (a := ⟨g, j, none⟩) hW]
    exact h2 j hj)
  rwa [h1] at this

end Go.Proofs.YtopkdkehkdhmgabDoor
