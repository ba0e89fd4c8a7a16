/- The fields of a line. -/
import Derived.Test.YtopkdkehkdhmgabDoorSmall
namespace Go.Proofs.YtopkdkehkdhmgabDoor
open Go.RowKit

/-- One byte further: where the field that is open begins, and the fields that are closed. -/
def fstep (l : List UInt8) (st : Nat × List (Nat × Nat)) (i : Nat) : Nat × List (Nat × Nat) :=
  if l.getD i 0 = 32 then (i + 1, if st.1 < i then st.2 ++ [(st.1, i)] else st.2) else st
def fld (l : List UInt8) : Nat → Nat × List (Nat × Nat)
  | 0 => (0, [])
  | k + 1 => fstep l (fld l k) k
def flds (l : List UInt8) (n : Nat) : List (Nat × Nat) := if (fld l n).1 < n then (fld l n).2 ++ [((fld l n).1, n)] else (fld l n).2
theorem fld_le (l : List UInt8) (k : Nat) : (fld l k).1 ≤ k := by
  induction k with
  | zero => exact Nat.le_refl _
  | succ k ih =>
    show (fstep l (fld l k) k).1 ≤ k + 1
    unfold fstep
    split
    · exact Nat.le_refl _
    · omega
theorem fld_len (l : List UInt8) (k : Nat) : (fld l k).2.length ≤ k := by
  induction k with
  | zero => exact Nat.le_refl _
  | succ k ih =>
    show (fstep l (fld l k) k).2.length ≤ k + 1
    unfold fstep
    split
    · simp only; split
      · simp; omega
      · omega
    · omega
theorem flds_len (l : List UInt8) (n : Nat) : (flds l n).length ≤ n + 1 := by
  have := fld_len l n
  unfold flds; split
  · simp; omega
  · omega
theorem fld_other {l : List UInt8} {k : Nat} (h : l.getD k 0 ≠ 32) : fld l (k + 1) = fld l k := by show fstep _ _ _ = _; unfold fstep; rw [if_neg h]
theorem fld_space {l : List UInt8} {k : Nat} (h : l.getD k 0 = 32) : fld l (k + 1) = (k + 1, if (fld l k).1 < k then (fld l k).2 ++ [((fld l k).1, k)] else (fld l k).2) := by show fstep _ _ _ = _; unfold fstep; rw [if_pos h]

def okB (l : List UInt8) (i : Nat) : Prop := 32 ≤ (l.getD i 0).toNat ∧ (l.getD i 0).toNat ≤ 126
/-- What SplitFields takes. -/
def fgood (s : ByteArray) : Prop := s.size ≤ 600 ∧ (∀ i, i < s.size → okB s.data.toList i) ∧ (flds s.data.toList s.size).length ≤ 24
def strsOf (s : ByteArray) (xs : List (Nat × Nat)) : List Value := xs.map fun p => .string (s.extract p.1 p.2)
/-- What SplitFields leaves. -/
def FldPost (s : ByteArray) (T : TypeId) (B : Nat) (w : World) (e : Ending) (w' : World) : Prop :=
  ∃ (v : Value) (n : Nat) (xs : List Value) (ok : Bool), e = .returned (.tuple #[v, .bool ok]) ∧ w'.ownsRow B T 1 v n xs ∧ Below B w w' ∧
    ((fgood s ∧ ok = true ∧ n = (flds s.data.toList s.size).length ∧ xs = strsOf s (flds s.data.toList s.size)) ∨ (¬ fgood s ∧ ok = false ∧ n = 0 ∧ xs = []))
theorem byteAt (s : ByteArray) (i : Nat) (h : i < s.size) : s.data.toList.getD i 0 = s[i] := by
  rw [List.getD_eq_getElem?_getD, List.getElem?_eq_getElem (by simpa using h)]; rfl
theorem is32 {c : UInt8} (h : c.toNat = 32) : c = 32 := UInt8.toNat_inj.1 h
theorem strsOf_snoc (s : ByteArray) (xs : List (Nat × Nat)) (a b : Nat) : strsOf s xs ++ [.string (s.extract a b)] = strsOf s (xs ++ [(a, b)]) := by simp [strsOf]
theorem strsOf_length (s : ByteArray) (xs : List (Nat × Nat)) : (strsOf s xs).length = xs.length := by simp [strsOf]

theorem ownsRow_below_any {B : Nat} {e : TypeId} {k : Nat} {v : Value} {n : Nat} {xs : List Value} {w w' : World} (h : w.ownsRow B e k v n xs) (hb : Below w.heap.size w w') : w'.ownsRow B e k v n xs := by
  obtain ⟨h1, h2⟩ := h
  refine ⟨h1, ?_⟩
  rcases h2 with h2 | ⟨g, cap, cur, a, b, c, d⟩
  · exact .inl h2
  · refine .inr ⟨g, cap, cur, a, b, ?_, d⟩
    rw [hb.block g (Array.getElem?_eq_some_iff.1 c).1]
    exact c

end Go.Proofs.YtopkdkehkdhmgabDoor
