/- The lanes of a store: a row of rows of two numbers an element. -/
import Derived.Test.YtokhkcebdbopcaaOpenW
namespace Go.Proofs.Ytokhkcebdbopcaa
open Go.RowKit Go.ChangeShapes Go.WideShapes Go.Deep

/-- v is a slice of n slices: nn tells their lengths, xx what they hold, two numbers an element. -/
def LRd (w : World) (v : Value) (n : Nat) (nn : Nat → Nat) (xx : Nat → Nat → Int) : Prop :=
  ∃ (p : Option Addr) (c g o : Nat) (s : Nat → Value), v = .slice p n c ∧ n ≤ c ∧ FlatAt w 0 w.heap.size p g o n s ∧ ∀ i, i < n → Rd w (s i) (nn i) (nn i * 2) (xx i)
theorem LRd.later {w w' : World} {v : Value} {n : Nat} {nn : Nat → Nat} {xx : Nat → Nat → Int} (h : LRd w v n nn xx) (hb : Below w.heap.size w w') : LRd w' v n nn xx := by
  obtain ⟨p, c, g, o, s, h1, h2, h3, h4⟩ := h
  exact ⟨p, c, g, o, s, h1, h2, (h3.below hb (Nat.le_refl _)).wide (Nat.le_refl _) hb.size, fun i hi => (h4 i hi).later hb⟩
/-- The same, and none of the slices is nil. -/
def LRs (w : World) (v : Value) (n : Nat) (nn : Nat → Nat) (xx : Nat → Nat → Int) : Prop :=
  ∃ (p : Option Addr) (c g o : Nat) (s : Nat → Value), v = .slice p n c ∧ n ≤ c ∧ FlatAt w 0 w.heap.size p g o n s ∧ ∀ i, i < n → Rd w (s i) (nn i) (nn i * 2) (xx i) ∧ ∃ a c, s i = .slice (some a) (nn i) c
theorem LRs.rd {w : World} {v : Value} {n : Nat} {nn : Nat → Nat} {xx : Nat → Nat → Int} (h : LRs w v n nn xx) : LRd w v n nn xx := by
  obtain ⟨p, c, g, o, s, h1, h2, h3, h4⟩ := h
  exact ⟨p, c, g, o, s, h1, h2, h3, fun i hi => (h4 i hi).1⟩
theorem LRs.later {w w' : World} {v : Value} {n : Nat} {nn : Nat → Nat} {xx : Nat → Nat → Int} (h : LRs w v n nn xx) (hb : Below w.heap.size w w') : LRs w' v n nn xx := by
  obtain ⟨p, c, g, o, s, h1, h2, h3, h4⟩ := h
  exact ⟨p, c, g, o, s, h1, h2, (h3.below hb (Nat.le_refl _)).wide (Nat.le_refl _) hb.size, fun i hi => ⟨(h4 i hi).1.later hb, (h4 i hi).2⟩⟩
/-- The same, in the blocks lo .. hi; the elements may be written, and no two of the slices share a block. -/
def LOwn (w : World) (lo hi : Nat) (v : Value) (n : Nat) (nn : Nat → Nat) (xx : Nat → Nat → Int) : Prop :=
  ∃ (p : Option Addr) (c g o : Nat) (s : Nat → Value) (gg : Nat → Nat), v = .slice p n c ∧ n ≤ c ∧ FlatAt w lo hi p g o n s ∧ FreeAt w g o n ∧
    (∀ i, i < n → Own w (gg i) (gg i + 1) (s i) (nn i) (nn i * 2) (xx i) ∧ (0 < nn i → lo ≤ gg i ∧ gg i < hi ∧ gg i ≠ g) ∧ ∃ a c, s i = .slice (some a) (nn i) c) ∧ (∀ i j, i < j → j < n → 0 < nn i → 0 < nn j → gg i ≠ gg j)
theorem Own.lone {w : World} {lo hi : Nat} {v : Value} {n m : Nat} {z : Nat → Int} (h : Own w lo hi v n m z) : ∃ g, Own w g (g + 1) v n m z ∧ (0 < m → lo ≤ g ∧ g < hi) := by
  obtain ⟨p, c, g, o, h1, h2, h3, h4⟩ := h
  refine ⟨g, ⟨p, c, g, o, h1, h2, ⟨fun hm => ⟨(h3.1 hm).1, Nat.le_refl _, Nat.lt_succ_self _⟩, h3.2⟩, h4⟩, fun hm => (h3.1 hm).2⟩
theorem Own.part {w w' : World} {g : Nat} {v : Value} {n m : Nat} {z : Nat → Int} (h : Own w g (g + 1) v n m z) (hk : 0 < m → w'.heap[g]? = w.heap[g]?) : Own w' g (g + 1) v n m z := by
  obtain ⟨p, c, b, o, h1, h2, h3, h4⟩ := h
  refine ⟨p, c, b, o, h1, h2, ⟨h3.1, fun j hj => ?_⟩, fun j hj => ?_⟩
  · obtain ⟨-, h5, h6⟩ := h3.1 (by omega)
    obtain rfl : b = g := by omega
    exact (World.cell?_of_block (a := ⟨b, o + j, none⟩) (hk (by omega))).trans (h3.2 j hj)
  · obtain ⟨-, h5, h6⟩ := h3.1 (by omega)
    obtain rfl : b = g := by omega
    exact (World.frozen?_of_block (a := ⟨b, o + j, none⟩) (hk (by omega))).trans (h4 j hj)
theorem LOwn.rds {w : World} {lo hi : Nat} {v : Value} {n : Nat} {nn : Nat → Nat} {xx : Nat → Nat → Int} (h : LOwn w lo hi v n nn xx) (hh : hi ≤ w.heap.size) : LRs w v n nn xx := by
  obtain ⟨p, c, g, o, s, gg, h1, h2, h3, h4, h5, h6⟩ := h
  refine ⟨p, c, g, o, s, h1, h2, h3.wide (Nat.zero_le _) hh, fun i hi => ⟨?_, (h5 i hi).2.2⟩⟩
  obtain ⟨p', c', g', o', a1, a2, a3, -⟩ := (h5 i hi).1
  refine ⟨p', c', g', o', a1, a2, ⟨fun hm => ⟨(a3.1 hm).1, Nat.zero_le _, ?_⟩, a3.2⟩⟩
  have := (h5 i hi).2.1 (by omega)
  have := a3.1 hm
  omega
theorem LOwn.rd {w : World} {lo hi : Nat} {v : Value} {n : Nat} {nn : Nat → Nat} {xx : Nat → Nat → Int} (h : LOwn w lo hi v n nn xx) (hh : hi ≤ w.heap.size) : LRd w v n nn xx := (h.rds hh).rd
theorem LOwn.wide {w : World} {lo hi lo' hi' : Nat} {v : Value} {n : Nat} {nn : Nat → Nat} {xx : Nat → Nat → Int} (h : LOwn w lo hi v n nn xx) (h1 : lo' ≤ lo) (h2 : hi ≤ hi') : LOwn w lo' hi' v n nn xx := by
  obtain ⟨p, c, g, o, s, gg, a1, a2, a3, a4, a5, a6⟩ := h
  exact ⟨p, c, g, o, s, gg, a1, a2, a3.wide h1 h2, a4, fun i hi => ⟨(a5 i hi).1, fun hm => by have := (a5 i hi).2.1 hm; exact ⟨by omega, by omega, this.2.2⟩, (a5 i hi).2.2⟩, a6⟩
theorem LOwn.keep {w w' : World} {lo hi : Nat} {v : Value} {n : Nat} {nn : Nat → Nat} {xx : Nat → Nat → Int} (h : LOwn w lo hi v n nn xx) (hk : ∀ k, lo ≤ k → k < hi → w'.heap[k]? = w.heap[k]?) : LOwn w' lo hi v n nn xx := by
  obtain ⟨p, c, g, o, s, gg, a1, a2, a3, a4, a5, a6⟩ := h
  refine ⟨p, c, g, o, s, gg, a1, a2, a3.keep hk, fun j hj => ?_, fun i hi => ⟨(a5 i hi).1.part (fun hm => ?_), (a5 i hi).2⟩, a6⟩
  · exact (World.frozen?_of_block (a := ⟨g, o + j, none⟩) (hk g (a3.1 (by omega)).2.1 (a3.1 (by omega)).2.2)).trans (a4 j hj)
  · have := (a5 i hi).2.1 (by omega)
    exact hk _ this.1 this.2.1
theorem LOwn.below {w w' : World} {B lo hi : Nat} {v : Value} {n : Nat} {nn : Nat → Nat} {xx : Nat → Nat → Int} (h : LOwn w lo hi v n nn xx) (hb : Below B w w') (hB : hi ≤ B) : LOwn w' lo hi v n nn xx := h.keep fun k _ hk => hb.block k (by omega)
theorem LOwn.touch {w w' : World} {a b lo hi : Nat} {v : Value} {n : Nat} {nn : Nat → Nat} {xx : Nat → Nat → Int} (h : LOwn w lo hi v n nn xx) (t : Touch a b w w') (hs : hi ≤ w.heap.size) (hd : hi ≤ a ∨ b ≤ lo) : LOwn w' lo hi v n nn xx := h.keep fun k h1 h2 => t.block k (by omega) (by omega)

/-- Lanes that came in. -/
theorem lanes_open {H : Type} {enc : TypeId × Value → H} {w : World} {base : Nat} {spare : Nat → Bool} {held : Bool} {t ti e : TypeId} {fs : Array Field} {n c : Nat} {p : Option Addr} {x : DataW H × List MemPlace} {P : Program}
    (ht : P.underlying t = some (.slice ti)) (hti : P.underlying ti = some (.slice e)) (h1c : P.cellsOf ti = 1) (he : P.underlying e = some (.struct fs)) (hone : oneCellFields P fs = true) (hC : P.cellsOf e = 2) (hK : fs.size = 2) {T : TypeId} (hT : P.underlying T = some (.int .i64)) (hall : (fs.toList.all fun f => f.type == T) = true)
    (h : ∃ fuel, DataW.trod enc P w base spare held fuel t (Value.slice p n c).cells.toList = some x) :
    ∃ (nn : Nat → Nat) (xx : Nat → Nat → Int), n ≤ maxLen ∧ (∀ i, i < n → nn i ≤ maxLen) ∧ LRd w (.slice p n c) n nn xx ∧ ∀ i, i < n → ∀ j, j < nn i * 2 → (Lit.int .i64 (xx i j)).wf = true := by
  obtain ⟨fuel, h⟩ := h
  rcases open_slice ht h with ⟨hcs, -⟩ | ⟨ad, len, cap, m, n', D, Pl, hcs, hb, hl, hm, hmm, -, hi⟩
  · simp [Value.cells] at hcs
    obtain ⟨rfl, rfl, rfl⟩ := hcs
    exact ⟨fun _ => 0, fun _ _ => 0, by unfold maxLen; omega, fun i hi => absurd hi (by omega), ⟨none, 0, 0, 0, fun _ => .slice none 0 0, rfl, Nat.le_refl _, FlatAt.zero _ _ _ _ _ _ _, fun i hi => absurd hi (by omega)⟩, fun i hi => absurd hi (by omega)⟩
  · simp [Value.cells] at hcs
    obtain ⟨rfl, rfl, rfl⟩ := hcs
    have hnm : n ≤ m := by rw [hmm]; split <;> omega
    have hsl : ∀ i, ∃ (v : Value) (k : Nat) (z : Nat → Int), i < n → w.cell? (ad.add i) = some v ∧ k ≤ maxLen ∧ Rd w v k (k * 2) z ∧ ∀ j, j < k * 2 → (Lit.int .i64 (z j)).wf = true := by
      intro i
      by_cases hin : i < n
      · obtain ⟨cs', hc, ht'⟩ := hi i (by omega)
        rw [h1c] at hc
        obtain ⟨-, hcl, hat⟩ := World.cells?_some hc
        obtain ⟨v, rfl⟩ : ∃ v, cs' = [v] := by
          match cs', hcl with
          | [v], _ => exact ⟨v, rfl⟩
        have hca := hat 0 (by omega)
        rw [Go.Deep.add_add, Nat.mul_one, Nat.add_zero] at hca
        obtain ⟨ps, k, cs, rfl⟩ : ∃ ps k cs, v = .slice ps k cs := by
          rcases open_slice hti ht' with ⟨e, -⟩ | ⟨a, l, c, _, _, _, _, e, -⟩
          · simp at e; exact ⟨_, _, _, e⟩
          · simp at e; exact ⟨_, _, _, e⟩
        obtain ⟨g, o, z, hz1, hz2, hz3, hz4⟩ := open_rows hti he hone hC hK (by omega) hT hall ht'
        exact ⟨_, k, z, fun _ => ⟨by simpa using hca, Nat.le_trans hz1 hz2, ⟨_, _, g, o, rfl, hz1, hz3⟩, hz4⟩⟩
      · exact ⟨.slice none 0 0, 0, fun _ => 0, fun h => absurd h hin⟩
    obtain ⟨s, hs⟩ : ∃ s : Nat → Value, ∀ i, s i = Classical.choose (hsl i) := ⟨_, fun _ => rfl⟩
    obtain ⟨nn, hnn⟩ : ∃ nn : Nat → Nat, ∀ i, nn i = Classical.choose (Classical.choose_spec (hsl i)) := ⟨_, fun _ => rfl⟩
    obtain ⟨xx, hxx⟩ : ∃ xx : Nat → Nat → Int, ∀ i, xx i = Classical.choose (Classical.choose_spec (Classical.choose_spec (hsl i))) := ⟨_, fun _ => rfl⟩
    have hall2 : ∀ i, i < n → w.cell? (ad.add i) = some (s i) ∧ nn i ≤ maxLen ∧ Rd w (s i) (nn i) (nn i * 2) (xx i) ∧ ∀ j, j < nn i * 2 → (Lit.int .i64 (xx i j)).wf = true := by
      intro i hin
      have := Classical.choose_spec (Classical.choose_spec (Classical.choose_spec (hsl i))) hin
      rw [hs, hnn, hxx]
      exact this
    by_cases h0 : n = 0
    · subst h0
      exact ⟨nn, xx, by unfold maxLen; omega, fun i hi => absurd hi (by omega), ⟨_, _, 0, 0, s, rfl, hl, FlatAt.zero _ _ _ _ _ _ _, fun i hi => absurd hi (by omega)⟩, fun i hi => absurd hi (by omega)⟩
    · obtain ⟨b, off, spot⟩ := ad
      have hq0 := (hall2 0 (by omega)).1
      have hspot : spot = none := by
        obtain ⟨p', c', g', o', e1, -⟩ := (hall2 0 (by omega)).2.2.1
        rw [e1] at hq0
        have h9 := World.cell?_spot hq0
        simpa [Addr.add] using h9
      subst hspot
      refine ⟨nn, xx, by omega, fun i hin => (hall2 i hin).2.1, ⟨_, _, b, off, s, rfl, hl, ⟨fun _ => ⟨rfl, Nat.zero_le _, ?_⟩, fun j hj => ?_⟩, fun i hin => (hall2 i hin).2.2.1⟩, fun i hin => (hall2 i hin).2.2.2⟩
      · have h9 := World.block_lt_of_cell? w _ hq0
        unfold Addr.add at h9
        split at h9 <;> exact h9
      · have := (hall2 j hj).1
        rw [Go.WideShapes.add_plain] at this
        exact this

end Go.Proofs.Ytokhkcebdbopcaa
