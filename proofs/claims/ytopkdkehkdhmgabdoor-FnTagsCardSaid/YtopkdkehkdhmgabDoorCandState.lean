/- The steps of the fillings, and a text of twelve bytes in memory. -/
import Derived.Test.YtopkdkehkdhmgabDoorCandPlain
import Derived.Laws.IdiomStrings
import Derived.Lib.ConvBytes
import Derived.Lib.AtoiErrMem
namespace Go.Proofs.YtopkdkehkdhmgabDoor
open Go.RowKit

theorem stR_top (l : List UInt8) (k : Nat) : stR l k 12 = (l, k) := by
  have e : (placesTo l 12).filter (fun p => 12 ≤ p) = [] := by
    rw [List.filter_eq_nil_iff]; intro a ha; have := placesTo_lt l 12 a ha; simp; omega
  unfold stR; rw [e]; simp [setsR]
theorem stR_zero (l : List UInt8) (k : Nat) : (stR l k 0).1 = setsR (placesTo l 12).reverse l k := by
  have e : (placesTo l 12).filter (fun p => 0 ≤ p) = placesTo l 12 := by rw [List.filter_eq_self]; intro a _; simp
  unfold stR; rw [e]
theorem stR_yes (l : List UInt8) (k i : Nat) (hi : i < 12) (h : isQ l i = true) : stR l k i = ((stR l k (i + 1)).1.set i (dg8 (stR l k (i + 1)).2), (stR l k (i + 1)).2 / 10) := by
  unfold stR
  rw [filter_from l i hi, if_pos h]
  simp only [List.singleton_append, List.reverse_cons, setsR_append, List.length_reverse, List.length_cons]
  rw [Nat.pow_succ, Nat.div_div_eq_div_mul]
  rfl
theorem stR_no (l : List UInt8) (k i : Nat) (hi : i < 12) (h : isQ l i = false) : stR l k i = stR l k (i + 1) := by
  unfold stR
  rw [filter_from l i hi, if_neg (by rw [h]; decide)]
  rfl
theorem setsR_len : ∀ (ps : List Nat) (b : List UInt8) (k : Nat), (setsR ps b k).length = b.length
  | [], _, _ => rfl
  | p :: ps, b, k => by rw [setsR, setsR_len ps]; simp
theorem getD_set (b : List UInt8) (p j : Nat) (x : UInt8) : (b.set p x).getD j 0 = if p = j ∧ j < b.length then x else b.getD j 0 := by
  simp only [List.getD_eq_getElem?_getD, List.getElem?_set]
  by_cases h : p = j
  · subst h
    by_cases h2 : p < b.length
    · simp [h2]
    · simp [h2]
  · simp [h]
theorem setsR_far : ∀ (ps : List Nat) (b : List UInt8) (k j : Nat), j ∉ ps → (setsR ps b k).getD j 0 = b.getD j 0
  | [], _, _, _, _ => rfl
  | p :: ps, b, k, j, h => by
    simp only [List.mem_cons, not_or] at h
    rw [setsR, setsR_far ps _ _ j h.2, getD_set, if_neg (by intro e; exact h.1 e.1.symm)]
theorem dg8_isD (k : Nat) : isD (dg8 k) := by unfold isD dg8; rw [dig_nat _ (by omega)]; omega
theorem setsR_dig : ∀ (ps : List Nat) (b : List UInt8) (k j : Nat), j ∈ ps → j < b.length → isD ((setsR ps b k).getD j 0)
  | p :: ps, b, k, j, h, hj => by
    rw [setsR]
    by_cases e : j ∈ ps
    · exact setsR_dig ps _ _ j e (by simpa using hj)
    · rw [setsR_far ps _ _ j e, getD_set]
      have : p = j := by rcases List.mem_cons.1 h with h | h
                         · exact h.symm
                         · exact absurd h e
      rw [if_pos ⟨this, hj⟩]
      exact dg8_isD k
/-- A filling is digits but for the sign. -/
theorem fill_isD {l : List UInt8} (h : frm l) (k j : Nat) (hj : j < 10) : isD ((setsR (placesTo l 12).reverse l k).getD j 0) := by
  by_cases e : j ∈ (placesTo l 12).reverse
  · exact setsR_dig _ _ _ _ e (by rw [h.1]; omega)
  · rw [setsR_far _ _ _ _ e]
    rcases h.2.2.1 j (by omega) (by omega) with h2 | h2
    · exfalso
      apply e
      rw [List.mem_reverse]
      unfold placesTo
      rw [List.mem_filter]
      exact ⟨List.mem_range.2 (by omega), by unfold isQ; rw [h2]; rfl⟩
    · exact h2
/-- Before the place i has its turn, it holds what it held. -/
theorem stR_at (l : List UInt8) (k i : Nat) : (stR l k (i + 1)).1.getD i 0 = l.getD i 0 := by
  unfold stR
  apply setsR_far
  rw [List.mem_reverse, List.mem_filter]
  simp
theorem stR_len (l : List UInt8) (k i : Nat) : (stR l k i).1.length = l.length := by unfold stR; exact setsR_len _ _ _
theorem stR_rest_le (l : List UInt8) (k i : Nat) : (stR l k i).2 ≤ k := by unfold stR; exact Nat.div_le_self _ _

def byt (b : UInt8) : Value := .int .u8 (b.toNat : Int)
/-- Block g holds the text b of twelve bytes, and they may be written. -/
def TX (w : World) (g : Nat) (b : List UInt8) : Prop := g < w.heap.size ∧ b.length = 12 ∧ ∀ j, j < 12 → w.cell? ⟨g, j, none⟩ = some (byt (b.getD j 0)) ∧ w.frozen? ⟨g, j, none⟩ = false
theorem TX.drew {w : World} {g : Nat} {b : List UInt8} (h : TX w g b) : TX w.drew g b := h
theorem TX.below {w w' : World} {g B : Nat} {b : List UInt8} (h : TX w g b) (hb : Below B w w') (hg : g < B) : TX w' g b :=
  ⟨Nat.lt_of_lt_of_le h.1 hb.size, h.2.1, fun j hj => ⟨(hb.cell (p := ⟨g, j, none⟩) hg).trans (h.2.2 j hj).1, (hb.frozen (p := ⟨g, j, none⟩) hg).trans (h.2.2 j hj).2⟩⟩
theorem TX.alloc {w : World} {g : Nat} {b : List UInt8} (h : TX w g b) (o : Obj) : TX (w.alloc o) g b := h.below ((Below.refl w.heap.size w).alloc (Nat.le_refl _) o) h.1
theorem TX.grown {w w' : World} {g : Nat} {b : List UInt8} {row : Option Nat} (h : TX w g b) (hg : w.grownBy w' row) (hne : some g ≠ row) : TX w' g b :=
  ⟨Nat.lt_of_lt_of_le h.1 hg.size, h.2.1, fun j hj => ⟨(World.cell?_of_block (w := w) (a := ⟨g, j, none⟩) (hg.block g h.1 hne)).trans (h.2.2 j hj).1, (World.frozen?_of_block (w := w) (a := ⟨g, j, none⟩) (hg.block g h.1 hne)).trans (h.2.2 j hj).2⟩⟩
theorem TX.set {w : World} {g : Nat} {b : List UInt8} (h : TX w g b) (i : Nat) (x : UInt8) (hi : i < 12) : TX (w.setCell ⟨g, i, none⟩ (byt x)) g (b.set i x) := by
  refine ⟨by simpa [World.setCell] using h.1, by simpa using h.2.1, fun j hj => ?_⟩
  rw [getD_set]
  by_cases e : i = j
  · subst e
    rw [if_pos ⟨rfl, by rw [h.2.1]; exact hi⟩]
    refine ⟨?_, ?_⟩
    · exact World.cell?_setCell_same w _ _ (h.2.2 i hi).1
    · rw [World.frozen?_setCell]; exact (h.2.2 i hi).2
  · rw [if_neg (by intro q; exact e q.1)]
    refine ⟨?_, ?_⟩
    · rw [World.cell?_setCell_other w _ _ _ (by intro q; injection q with _ q2 _; exact e q2)]; exact (h.2.2 j hj).1
    · rw [World.frozen?_setCell]; exact (h.2.2 j hj).2
theorem TX.conv {P : Program} {T S E : TypeId} (hT : P.underlying T = some (.slice E)) (hE : P.underlying E = some (.int .u8)) (hS : P.underlying S = some .string) {w : World} {g : Nat} {b : List UInt8} (h : TX w g b) (cap : Nat) :
    (convert T S (.slice (some ⟨g, 0, none⟩) 12 cap)).run P w = .ok (.string ⟨b.toArray⟩) w := by
  have := run_convert_bytes_back (P := P) w T S E ⟨g, 0, none⟩ cap b hT hE hS (fun j hj => by
    have hj' : j < 12 := by have := h.2.1; omega
    have := (h.2.2 j hj').1
    rw [show (⟨g, 0, none⟩ : Addr).add j = ⟨g, j, none⟩ by unfold Addr.add; split <;> simp_all, this]
    simp [byt, List.getD_eq_getElem?_getD, hj])
  rwa [h.2.1] at this

/-- A row of the call's own, behind a call that leaves old memory as it was. -/
theorem own_below {w w' : World} {base : Nat} {e : TypeId} {size : Nat} {v : Value} {n : Nat} {xs : List Value} (h : w.ownsRow base e size v n xs) (hb : Below w.heap.size w w') : w'.ownsRow base e size v n xs :=
  h.kept (row := none) ⟨hb.os, hb.tape, hb.output, hb.size, fun k hk _ => hb.block k hk⟩ (by cases hv : v.ownBlock <;> simp)
theorem TX_bytes (w : World) (e : TypeId) (s : ByteArray) (h12 : s.size = 12) : TX (Lib.bytesWorld w e s) w.heap.size s.data.toList := by
  refine ⟨by rw [Lib.bytesWorld_size]; omega, by simp [h12], fun j hj => ⟨?_, ?_⟩⟩
  · exact Lib.bytesWorld_cell w e s j (by omega)
  · have hbw := Lib.bytesWorld_at_new w e s
    have hsz : 12 ≤ (Lib.bytesCells w e s).size := by
      unfold Lib.bytesCells
      rw [Array.size_append, Array.size_map]
      have : s.data.size = s.size := rfl
      omega
    simp only [World.frozen?, hbw]
    simp
    omega

end Go.Proofs.YtopkdkehkdhmgabDoor
