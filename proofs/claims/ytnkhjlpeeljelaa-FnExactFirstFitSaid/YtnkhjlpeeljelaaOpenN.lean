/- A row of structs that came in, whose fields are numbers but for the last one, a slice of numbers. -/
import Derived.Test.YtnkhjlpeeljelaaOpenW
namespace Go.Proofs.Ytnkhjlpeeljelaa
open Go.RowKit Go.ChangeShapes Go.WideShapes Go.Deep

/-- v is a slice of n structs of K numbers and a slice each: a tells the numbers (K + 1 cells a struct), nn the slices' lengths, xx what they hold. -/
def NRd (w : World) (v : Value) (n K : Nat) (a : Nat → Int) (nn : Nat → Nat) (xx : Nat → Nat → Int) : Prop :=
  ∃ (p : Option Addr) (c g o : Nat) (s : Nat → Value), v = .slice p n c ∧ n ≤ c ∧ FlatAt w 0 w.heap.size p g o (n * (K + 1)) (fun j => if j % (K + 1) = K then s (j / (K + 1)) else .int .i64 (a j)) ∧ ∀ i, i < n → Rd w (s i) (nn i) (nn i) (xx i)
theorem NRd.later {w w' : World} {v : Value} {n K : Nat} {a : Nat → Int} {nn : Nat → Nat} {xx : Nat → Nat → Int} (h : NRd w v n K a nn xx) (hb : Below w.heap.size w w') : NRd w' v n K a nn xx := by
  obtain ⟨p, c, g, o, s, h1, h2, h3, h4⟩ := h
  exact ⟨p, c, g, o, s, h1, h2, (h3.below hb (Nat.le_refl _)).wide (Nat.le_refl _) hb.size, fun i hi => (h4 i hi).later hb⟩

theorem nest_openV {H : Type} {enc : TypeId × Value → H} {w : World} {base : Nat} {spare : Nat → Bool} {held : Bool} {t e : TypeId} {fs : Array Field} {K n c : Nat} {p : Option Addr} {x : DataW H × List MemPlace}
    (ht : Try.prog.underlying t = some (.slice e)) (he : Try.prog.underlying e = some (.struct fs)) (hone : oneCellFields Try.prog fs = true) (hC : Try.prog.cellsOf e = K + 1) (hK : fs.size = K + 1)
    (hall : ∀ (i : Nat) (f : Field), fs[i]? = some f → f.type = if i = K then 35 else 3)
    (h : ∃ fuel, DataW.trod enc Try.prog w base spare held fuel t (Value.slice p n c).cells.toList = some x) :
    ∃ (a : Nat → Int) (nn : Nat → Nat) (xx : Nat → Nat → Int), n ≤ maxLen ∧ (∀ i, i < n → nn i ≤ maxLen) ∧ NRd w (.slice p n c) n K a nn xx ∧ (∀ i, i < n → ∀ r, r < K → (Lit.int .i64 (a (i * (K + 1) + r))).wf = true) ∧ ∀ i, i < n → ∀ j, j < nn i → (Lit.int .i64 (xx i j)).wf = true := by
  obtain ⟨fuel, h⟩ := h
  rcases open_slice ht h with ⟨hcs, -⟩ | ⟨ad, len, cap, m, n', D, Pl, hcs, hb, hl, hm, hmm, -, hi⟩
  · simp [Value.cells] at hcs
    obtain ⟨rfl, rfl, rfl⟩ := hcs
    exact ⟨fun _ => 0, fun _ => 0, fun _ _ => 0, by unfold maxLen; omega, fun i hi => absurd hi (by omega), ⟨none, 0, 0, 0, fun _ => .slice none 0 0, rfl, Nat.le_refl _, by rw [Nat.zero_mul]; exact FlatAt.zero _ _ _ _ _ _ _, fun i hi => absurd hi (by omega)⟩, fun i hi => absurd hi (by omega), fun i hi => absurd hi (by omega)⟩
  · simp [Value.cells] at hcs
    obtain ⟨rfl, rfl, rfl⟩ := hcs
    have hpos : 0 < K + 1 := by omega
    have hnm : n ≤ m := by rw [hmm]; split <;> omega
    have hfld : ∀ i, i < n → ∀ r, r < K + 1 → ∃ v y, w.cell? (ad.add (i * (K + 1) + r)) = some v ∧ ∃ n'', DataW.trod enc Try.prog w base spare held n'' (if r = K then 35 else 3) [v] = some y := by
      intro i hin r hr
      obtain ⟨cs', hc, ht'⟩ := hi i (by omega)
      rw [hC] at hc
      obtain ⟨ys, n'', -, -, hlen, hyl, hf⟩ := DataW.trod_struct he ht'
      obtain ⟨-, hcl, hat⟩ := World.cells?_some hc
      have hfr : fs[r]? = some (fs[r]'(by omega)) := Array.getElem?_eq_getElem (by omega)
      obtain ⟨ho, hk⟩ := hone_of hone r _ hfr
      have h1 := hf r _ hfr
      rw [ho, hk] at h1
      have hone' : (cs'.drop r).take 1 = [cs'[r]'(by omega)] := by
        rw [List.drop_eq_getElem_cons (by omega)]; rfl
      rw [hone'] at h1
      have hys : ∃ y, ys[r]? = some y := by
        rcases hy : ys[r]? with _ | y
        · rw [List.getElem?_eq_none_iff] at hy
          omega
        · exact ⟨y, rfl⟩
      obtain ⟨y, hy⟩ := hys
      rw [hy, hall r _ hfr] at h1
      have hca := hat r hr
      rw [Go.Deep.add_add] at hca
      exact ⟨_, y, by rw [hca, List.getElem?_eq_getElem (by omega)], n'', h1⟩
    have hnum : ∀ i, i < n → ∀ r, r < K → ∃ q : Int, w.cell? (ad.add (i * (K + 1) + r)) = some (.int .i64 q) ∧ (Lit.int .i64 q).wf = true := by
      intro i hin r hr
      obtain ⟨v, y, hv, n'', h1⟩ := hfld i hin r (by omega)
      rw [if_neg (by omega)] at h1
      obtain ⟨q, hq, -, hqw⟩ := DataW.trod_int Try.underlying3 h1
      injection hq with hq
      exact ⟨q, by rw [hv, hq], hqw⟩
    have hsl : ∀ i, ∃ (v : Value) (k : Nat) (z : Nat → Int), i < n → w.cell? (ad.add (i * (K + 1) + K)) = some v ∧ k ≤ maxLen ∧ Rd w v k k z ∧ ∀ j, j < k → (Lit.int .i64 (z j)).wf = true := by
      intro i
      by_cases hin : i < n
      · obtain ⟨v, y, hv, n'', h1⟩ := hfld i hin K (by omega)
        rw [if_pos rfl] at h1
        obtain ⟨ps, k, cs, rfl⟩ : ∃ ps k cs, v = .slice ps k cs := by
          rcases open_slice Try.underlying35 h1 with ⟨e, -⟩ | ⟨a, l, c, _, _, _, _, e, -⟩
          · simp at e; exact ⟨_, _, _, e⟩
          · simp at e; exact ⟨_, _, _, e⟩
        obtain ⟨z, hz1, hz2, hz3⟩ := ints_openW ⟨n'', by simpa [Value.cells] using h1⟩
        exact ⟨_, k, z, fun _ => ⟨hv, hz1, hz2, hz3⟩⟩
      · exact ⟨.slice none 0 0, 0, fun _ => 0, fun h => absurd h hin⟩
    obtain ⟨s, hs⟩ : ∃ s : Nat → Value, ∀ i, s i = Classical.choose (hsl i) := ⟨_, fun _ => rfl⟩
    obtain ⟨nn, hnn⟩ : ∃ nn : Nat → Nat, ∀ i, nn i = Classical.choose (Classical.choose_spec (hsl i)) := ⟨_, fun _ => rfl⟩
    obtain ⟨xx, hxx⟩ : ∃ xx : Nat → Nat → Int, ∀ i, xx i = Classical.choose (Classical.choose_spec (Classical.choose_spec (hsl i))) := ⟨_, fun _ => rfl⟩
    have hall2 : ∀ i, i < n → w.cell? (ad.add (i * (K + 1) + K)) = some (s i) ∧ nn i ≤ maxLen ∧ Rd w (s i) (nn i) (nn i) (xx i) ∧ ∀ j, j < nn i → (Lit.int .i64 (xx i j)).wf = true := by
      intro i hin
      have := Classical.choose_spec (Classical.choose_spec (Classical.choose_spec (hsl i))) hin
      rw [hs, hnn, hxx]
      exact this
    by_cases h0 : n = 0
    · subst h0
      exact ⟨fun _ => 0, nn, xx, by unfold maxLen; omega, fun i hi => absurd hi (by omega), ⟨_, _, 0, 0, s, rfl, hl, by rw [Nat.zero_mul]; exact FlatAt.zero _ _ _ _ _ _ _, fun i hi => absurd hi (by omega)⟩, fun i hi => absurd hi (by omega), fun i hi => absurd hi (by omega)⟩
    · obtain ⟨b, off, spot⟩ := ad
      have hq0 := (hall2 0 (by omega)).1
      have hspot : spot = none := by
        by_cases hK0 : K = 0
        · subst hK0
          have h9 := World.cell?_spot hq0
          simpa [Addr.add] using h9
        · obtain ⟨q, hq, -⟩ := hnum 0 (by omega) 0 (by omega)
          have h9 := World.cell?_spot hq
          simpa [Addr.add] using h9
      subst hspot
      refine ⟨fun j => intOf ((w.cell? ⟨b, off + j, none⟩).getD undef), nn, xx, by omega, fun i hin => (hall2 i hin).2.1, ⟨_, _, b, off, s, rfl, hl, ⟨fun _ => ⟨rfl, Nat.zero_le _, ?_⟩, fun j hj => ?_⟩, fun i hin => (hall2 i hin).2.2.1⟩, fun i hin r hr => ?_, fun i hin => (hall2 i hin).2.2.2⟩
      · have h9 := World.block_lt_of_cell? w _ hq0
        unfold Addr.add at h9
        split at h9 <;> exact h9
      · have hji : j / (K + 1) < n := (Nat.div_lt_iff_lt_mul hpos).2 hj
        have hjr : j % (K + 1) < K + 1 := Nat.mod_lt _ hpos
        have hjj : j / (K + 1) * (K + 1) + j % (K + 1) = j := by rw [Nat.mul_comm]; exact Nat.div_add_mod j (K + 1)
        by_cases e : j % (K + 1) = K
        · have := (hall2 (j / (K + 1)) hji).1
          rw [show j / (K + 1) * (K + 1) + K = j by omega, Go.WideShapes.add_plain] at this
          show _ = some (if j % (K + 1) = K then _ else _)
          rw [if_pos e]; exact this
        · obtain ⟨q, hq, -⟩ := hnum (j / (K + 1)) hji (j % (K + 1)) (by omega)
          rw [hjj, Go.WideShapes.add_plain] at hq
          show _ = some (if j % (K + 1) = K then _ else Value.int .i64 (intOf ((w.cell? ⟨b, off + j, none⟩).getD undef)))
          rw [if_neg e, hq]; rfl
      · obtain ⟨q, hq, hqw⟩ := hnum i hin r hr
        rw [Go.WideShapes.add_plain] at hq
        show (Lit.int .i64 (intOf ((w.cell? ⟨b, off + (i * (K + 1) + r), none⟩).getD undef))).wf = true
        rw [hq]; exact hqw

end Go.Proofs.Ytnkhjlpeeljelaa
