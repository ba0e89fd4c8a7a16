/- The candidates of a text: plain facts on lists of bytes. -/
import Derived.Test.YtopkdkehkdhmgabDoorFormatTagSpec
import Derived.Test.YtopkdkehkdhmgabDoorParsePlain
namespace Go.Proofs.YtopkdkehkdhmgabDoor
open Go.RowKit

/-- The digit's byte. -/
def dg8 (x : Nat) : UInt8 := UInt8.ofNat (48 + x % 10)
/-- All ways to put digits at the places ps, in the order of the places' digits. -/
def fills : List Nat → List UInt8 → List (List UInt8)
  | [], b => [b]
  | p :: ps, b => (List.range 10).flatMap fun d => fills ps (b.set p (dg8 d))
/-- The digits of k at the places ps, the last digit at the first of them. -/
def setsR : List Nat → List UInt8 → Nat → List UInt8
  | [], b, _ => b
  | p :: ps, b, k => setsR ps (b.set p (dg8 k)) (k / 10)

theorem set_comm' (b : List UInt8) (p q : Nat) (x y : UInt8) (h : p ≠ q) : (b.set p x).set q y = (b.set q y).set p x := List.set_comm x y h
theorem setsR_set : ∀ (ps : List Nat) (b : List UInt8) (k p : Nat) (x : UInt8), p ∉ ps → setsR ps (b.set p x) k = (setsR ps b k).set p x
  | [], _, _, _, _, _ => rfl
  | q :: ps, b, k, p, x, h => by
    simp only [List.mem_cons, not_or] at h
    rw [setsR, setsR, set_comm' b p q x _ h.1]
    exact setsR_set ps _ _ p x h.2
theorem setsR_append : ∀ (ps qs : List Nat) (b : List UInt8) (k : Nat), setsR (ps ++ qs) b k = setsR qs (setsR ps b k) (k / 10 ^ ps.length)
  | [], qs, b, k => by simp [setsR]
  | p :: ps, qs, b, k => by
    rw [List.cons_append, setsR, setsR, setsR_append ps qs, List.length_cons, Nat.pow_succ, Nat.mul_comm (10 ^ ps.length) 10, ← Nat.div_div_eq_div_mul]
theorem setsR_mod : ∀ (ps : List Nat) (b : List UInt8) (k d : Nat), setsR ps b (d * 10 ^ ps.length + k) = setsR ps b k
  | [], _, _, _ => rfl
  | p :: ps, b, k, d => by
    rw [setsR, setsR, List.length_cons, Nat.pow_succ]
    have e1 : dg8 (d * (10 ^ ps.length * 10) + k) = dg8 k := by unfold dg8; rw [← Nat.mul_assoc]; congr 2; omega
    have e2 : (d * (10 ^ ps.length * 10) + k) / 10 = d * 10 ^ ps.length + k / 10 := by rw [← Nat.mul_assoc]; omega
    rw [e1, e2]
    exact setsR_mod ps _ _ _
theorem range_mul (m n : Nat) : List.range (m * n) = (List.range m).flatMap fun d => (List.range n).map fun k => d * n + k := by
  induction m with
  | zero => simp
  | succ m ih =>
    rw [Nat.succ_mul, List.range_add, ih, List.range_succ, List.flatMap_append]
    simp
theorem fills_eq : ∀ (ps : List Nat) (b : List UInt8), ps.Nodup → fills ps b = (List.range (10 ^ ps.length)).map fun k => setsR ps.reverse b k
  | [], b, _ => by simp [fills, setsR]
  | p :: ps, b, h => by
    obtain ⟨hp, hn⟩ := List.nodup_cons.1 h
    rw [fills, List.length_cons, Nat.pow_succ, Nat.mul_comm, range_mul, List.map_flatMap]
    have e : ∀ d : Nat, d ∈ List.range 10 → fills ps (b.set p (dg8 d)) = ((List.range (10 ^ ps.length)).map fun k => d * 10 ^ ps.length + k).map fun k => setsR (p :: ps).reverse b k := by
      intro d hd
      rw [fills_eq ps _ hn, List.map_map]
      apply List.map_congr_left
      intro k hk
      have hk' : k < 10 ^ ps.length := List.mem_range.1 hk
      simp only [Function.comp, List.reverse_cons]
      rw [setsR_append, List.length_reverse, setsR_set _ _ _ _ _ (by simpa using hp)]
      have e1 : setsR ps.reverse b (d * 10 ^ ps.length + k) = setsR ps.reverse b k := by
        have := setsR_mod ps.reverse b k d
        rwa [List.length_reverse] at this
      have e2 : (d * 10 ^ ps.length + k) / 10 ^ ps.length = d := by
        rw [Nat.mul_comm, Nat.mul_add_div (Nat.pow_pos (by decide)), Nat.div_eq_of_lt hk', Nat.add_zero]
      rw [e1, e2]
      rfl
    have : ∀ l : List Nat, (∀ d ∈ l, d ∈ List.range 10) → l.flatMap (fun d => fills ps (b.set p (dg8 d))) = l.flatMap fun d => ((List.range (10 ^ ps.length)).map fun k => d * 10 ^ ps.length + k).map fun k => setsR (p :: ps).reverse b k := by
      intro l
      induction l with
      | nil => intro _; rfl
      | cons d l ih =>
        intro hl
        rw [List.flatMap_cons, List.flatMap_cons, e d (hl d (by simp)), ih (fun x hx => hl x (by simp [hx]))]
    exact this _ (fun d hd => hd)

/-- Is there a '?' at i? -/
def isQ (l : List UInt8) (i : Nat) : Bool := l.getD i 0 == 63
/-- The places of '?' among the first n. -/
def placesTo (l : List UInt8) (n : Nat) : List Nat := (List.range n).filter (isQ l)
theorem placesTo_succ (l : List UInt8) (n : Nat) : placesTo l (n + 1) = placesTo l n ++ (if isQ l n = true then [n] else []) := by
  unfold placesTo
  rw [List.range_succ, List.filter_append]
  by_cases h : isQ l n = true <;> simp [h]
theorem placesTo_lt (l : List UInt8) (n : Nat) : ∀ i ∈ placesTo l n, i < n := fun _ hi => List.mem_range.1 (List.mem_filter.1 hi).1
theorem placesTo_nodup (l : List UInt8) (n : Nat) : (placesTo l n).Nodup := List.Pairwise.filter _ List.nodup_range
theorem placesTo_le (l : List UInt8) (n : Nat) : (placesTo l n).length ≤ n := by
  have := List.length_filter_le (isQ l) (List.range n)
  simpa [placesTo] using this
theorem placesTo_mono (l : List UInt8) {m n : Nat} (h : m ≤ n) : (placesTo l m).length ≤ (placesTo l n).length := by
  induction n with
  | zero => obtain rfl : m = 0 := by omega
            exact Nat.le_refl _
  | succ n ih =>
    by_cases e : m = n + 1
    · subst e; exact Nat.le_refl _
    · rw [placesTo_succ, List.length_append]; have := ih (by omega); omega

/-- The form that a text of candidates has. -/
def frm (l : List UInt8) : Prop := l.length = 12 ∧ l.getD 10 0 = 45 ∧ (∀ i, i < 12 → i ≠ 10 → l.getD i 0 = 63 ∨ isD (l.getD i 0)) ∧ (placesTo l 12).length ≤ 3

/-- The tag of a text without '?', if its text is that. -/
def tagOf (b : List UInt8) : Option (Nat × Nat × Nat) :=
  let N := numOf (b.take 10)
  if ftext ((N / 1000000000 : Nat) : Int) ((N / 1000000 % 1000 : Nat) : Int) ((N % 1000000 : Nat) : Int) = b then some (N / 1000000000, N / 1000000 % 1000, N % 1000000) else none
def tagCell (t : Nat × Nat × Nat) : List Value := [.int .i64 (t.1 : Int), .int .i64 (t.2.1 : Int), .int .i64 (t.2.2 : Int)]
/-- The candidates of a text. -/
def cands (l : List UInt8) : List (Nat × Nat × Nat) := (fills (placesTo l 12) l).filterMap tagOf
/-- The first k of the fillings, and the candidates among them. -/
def candsTo (l : List UInt8) (k : Nat) : List (Nat × Nat × Nat) := ((List.range k).map fun k => setsR (placesTo l 12).reverse l k).filterMap tagOf
theorem candsTo_all (l : List UInt8) : candsTo l (10 ^ (placesTo l 12).length) = cands l := by
  unfold candsTo cands
  rw [fills_eq _ _ (placesTo_nodup l 12)]
theorem candsTo_succ (l : List UInt8) (k : Nat) : candsTo l (k + 1) = candsTo l k ++ (tagOf (setsR (placesTo l 12).reverse l k)).toList := by
  unfold candsTo
  rw [List.range_succ, List.map_append, List.filterMap_append]
  cases h : tagOf (setsR (placesTo l 12).reverse l k) <;> simp [h]
theorem candsTo_len (l : List UInt8) (k : Nat) : (candsTo l k).length ≤ k := by
  have := List.length_filterMap_le tagOf ((List.range k).map fun k => setsR (placesTo l 12).reverse l k)
  simpa [candsTo] using this

/-- What stands when the places from i on have had their digits, and what is left of k then. -/
def stR (l : List UInt8) (k : Nat) (i : Nat) : List UInt8 × Nat :=
  (setsR ((placesTo l 12).filter (fun p => i ≤ p)).reverse l k, k / 10 ^ ((placesTo l 12).filter (fun p => i ≤ p)).length)
theorem filter_from (l : List UInt8) (i : Nat) (hi : i < 12) : (placesTo l 12).filter (fun p => i ≤ p) = (if isQ l i = true then [i] else []) ++ (placesTo l 12).filter (fun p => i + 1 ≤ p) := by
  unfold placesTo
  rw [List.filter_filter, List.filter_filter]
  have e : List.range 12 = List.range i ++ (i :: (List.range (11 - i)).map (fun j => i + 1 + j)) := by
    have : 12 = i + (1 + (11 - i)) := by omega
    conv => lhs; rw [this]
    rw [List.range_add, List.range_add, List.map_append]
    congr 1
    simp [List.map_map, Function.comp, Nat.add_assoc]
  rw [e, List.filter_append, List.filter_append, List.filter_cons, List.filter_cons]
  have z1 : (List.range i).filter (fun a => decide (i ≤ a) && isQ l a) = [] := by
    rw [List.filter_eq_nil_iff]; intro a ha; have := List.mem_range.1 ha; simp; omega
  have z2 : (List.range i).filter (fun a => decide (i + 1 ≤ a) && isQ l a) = [] := by
    rw [List.filter_eq_nil_iff]; intro a ha; have := List.mem_range.1 ha; simp; omega
  rw [z1, z2]
  have m1 : ((List.range (11 - i)).map (fun j => i + 1 + j)).filter (fun a => decide (i ≤ a) && isQ l a) = ((List.range (11 - i)).map (fun j => i + 1 + j)).filter (fun a => decide (i + 1 ≤ a) && isQ l a) := by
    apply List.filter_congr
    intro a ha
    obtain ⟨j, _, rfl⟩ := List.mem_map.1 ha
    have a1 : decide (i ≤ i + 1 + j) = true := decide_eq_true (by omega)
    have a2 : decide (i + 1 ≤ i + 1 + j) = true := decide_eq_true (by omega)
    rw [a1, a2]
  rw [m1]
  by_cases h : isQ l i = true <;> simp [h]

end Go.Proofs.YtopkdkehkdhmgabDoor
