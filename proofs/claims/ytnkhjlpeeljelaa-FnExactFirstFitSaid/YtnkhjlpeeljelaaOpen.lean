/- A row of structs of integers that came in, read. -/
import Derived.Test.YtnkhjlpeeljelaaFlat
import Derived.Test.YtnkhjlpeeljelaaChecked
import Derived.Deep.Slices
import Derived.Deep.Fields
import Derived.OpenShut
import Derived.ChangeSame
import Derived.Lib.SmallJoins
namespace Go.Proofs.Ytnkhjlpeeljelaa
open Go.RowKit Go.ChangeShapes Go.WideShapes Go.Deep

theorem open_rows {H : Type} {enc : TypeId × Value → H} {P : Program} {w : World} {base : Nat} {spare : Nat → Bool} {held : Bool} {t e : TypeId} {fs : Array Field} {K fuel n c : Nat} {p : Option Addr} {x : DataW H × List MemPlace}
    (ht : P.underlying t = some (.slice e)) (he : P.underlying e = some (.struct fs)) (hone : oneCellFields P fs = true) (hC : P.cellsOf e = K) (hK : fs.size = K) (hpos : 0 < K) {T : TypeId} (hT : P.underlying T = some (.int .i64)) (hall : (fs.toList.all fun f => f.type == T) = true)
    (h : DataW.trod enc P w base spare held fuel t [.slice p n c] = some x) :
    ∃ (g o : Nat) (z : Nat → Int), n ≤ c ∧ c ≤ maxLen ∧ FlatAt w 0 w.heap.size p g o (n * K) (fun j => .int .i64 (z j)) ∧ ∀ j, j < n * K → (Lit.int .i64 (z j)).wf = true := by
  have hint : ∀ (i : Nat) (f : Field), fs[i]? = some f → P.underlying f.type = some (.int .i64) := by
    intro i f hf
    have := List.all_eq_true.1 hall f (by rw [Array.mem_toList_iff]; exact Array.mem_of_getElem? hf)
    rw [show f.type = T by simpa using this]
    exact hT
  rcases open_slice ht h with ⟨hcs, -⟩ | ⟨a, len, cap, m, n', D, Pl, hcs, hb, hl, hm, hmm, -, hi⟩
  · simp at hcs
    obtain ⟨rfl, rfl, rfl⟩ := hcs
    exact ⟨0, 0, fun _ => 0, Nat.le_refl _, by unfold maxLen; omega, by rw [Nat.zero_mul]; exact FlatAt.zero _ _ _ _ _ _ _, fun j hj => absurd hj (by omega)⟩
  · simp at hcs
    obtain ⟨rfl, rfl, rfl⟩ := hcs
    have hnm : n ≤ m := by rw [hmm]; split <;> omega
    have hcell : ∀ j, j < n * K → ∃ q : Int, w.cell? (a.add j) = some (.int .i64 q) ∧ (Lit.int .i64 q).wf = true := by
      intro j hj
      have hjk : j / K < n := (Nat.div_lt_iff_lt_mul hpos).2 hj
      have hjr : j % K < K := Nat.mod_lt _ hpos
      obtain ⟨cs', hc, ht'⟩ := hi (j / K) (by omega)
      rw [hC] at hc
      obtain ⟨ys, n'', -, -, hlen, hyl, hf⟩ := DataW.trod_struct he ht'
      obtain ⟨-, hcl, hat⟩ := World.cells?_some hc
      have hfr : fs[j % K]? = some (fs[j % K]'(by omega)) := Array.getElem?_eq_getElem (by omega)
      obtain ⟨ho, hk⟩ := hone_of hone (j % K) _ hfr
      have h1 := hf (j % K) _ hfr
      rw [ho, hk] at h1
      have hone' : (cs'.drop (j % K)).take 1 = [cs'[j % K]'(by omega)] := by
        rw [List.drop_eq_getElem_cons (by omega)]; rfl
      rw [hone'] at h1
      have hys : ∃ y, ys[j % K]? = some y := by
        rcases hy : ys[j % K]? with _ | y
        · rw [hy] at h1
          have hl2 := hyl
          rw [List.getElem?_eq_none_iff] at hy
          omega
        · exact ⟨y, rfl⟩
      obtain ⟨y, hy⟩ := hys
      rw [hy] at h1
      obtain ⟨q, hq, -, hwf⟩ := DataW.trod_int (hint _ _ hfr) h1
      refine ⟨q, ?_, hwf⟩
      have hca := hat (j % K) hjr
      rw [Go.Deep.add_add, show j / K * K + j % K = j by rw [Nat.mul_comm]; exact Nat.div_add_mod j K] at hca
      rw [hca, List.getElem?_eq_getElem (by omega)]
      injection hq with hq
      rw [hq]
    obtain ⟨b, off, spot⟩ := a
    by_cases h0 : n = 0
    · subst h0
      exact ⟨0, 0, fun _ => 0, hl, hm, by rw [Nat.zero_mul]; exact FlatAt.zero _ _ _ _ _ _ _, fun j hj => absurd hj (by omega)⟩
    · have hnK : 0 < n * K := Nat.mul_pos (by omega) hpos
      obtain ⟨q0, hq0, -⟩ := hcell 0 hnK
      have hspot : spot = none := by simpa [Addr.add] using World.cell?_spot hq0
      subst hspot
      refine ⟨b, off, fun j => intOf ((w.cell? ⟨b, off + j, none⟩).getD undef), hl, hm, ⟨fun _ => ⟨rfl, Nat.zero_le _, ?_⟩, fun j hj => ?_⟩, fun j hj => ?_⟩
      · simp [Addr.add] at hq0
        rcases Nat.lt_or_ge b w.heap.size with h2 | h2
        · exact h2
        · unfold World.cell? at hq0
          rw [Array.getElem?_eq_none (by show _ ≤ b; omega)] at hq0
          simp at hq0
      · obtain ⟨q, hq, -⟩ := hcell j hj
        rw [Go.WideShapes.add_plain] at hq
        show _ = some (Value.int .i64 (intOf ((w.cell? ⟨b, off + j, none⟩).getD undef)))
        rw [hq]; rfl
      · obtain ⟨q, hq, hw⟩ := hcell j hj
        rw [Go.WideShapes.add_plain] at hq
        show (Lit.int .i64 (intOf ((w.cell? ⟨b, off + j, none⟩).getD undef))).wf = true
        rw [hq]; exact hw

/-- A row of integers that came in. -/
theorem ints_open {H : Type} {enc : TypeId × Value → H} {W : World} {base : Nat} {spare : Nat → Bool} {held : Bool} {p : Option Addr} {n c : Nat} {x : DataW H × List MemPlace}
    (h : ∃ fuel, DataW.trod enc Try.prog W base spare held fuel 35 (Value.slice p n c).cells.toList = some x) : ∃ (g o : Nat) (z : Nat → Int), n ≤ c ∧ c ≤ maxLen ∧ FlatAt W 0 W.heap.size p g o n (fun j => .int .i64 (z j)) := by
  obtain ⟨fuel, hf⟩ := h
  rcases open_ints Try.underlying35 Try.underlying3 (show Try.prog.cellsOf 3 = 1 by kernel_rfl) hf with ⟨hcs, -⟩ | ⟨a, len, cap', zs, hcs, -, hl, hm, hz, -, hcell, hwz⟩
  · simp [Value.cells] at hcs
    obtain ⟨rfl, rfl, rfl⟩ := hcs
    exact ⟨0, 0, fun _ => 0, Nat.le_refl _, by unfold maxLen; omega, FlatAt.zero _ _ _ _ _ _ _⟩
  · simp [Value.cells] at hcs
    obtain ⟨rfl, rfl, rfl⟩ := hcs
    have hlz : n ≤ zs.length := by rw [hz]; split <;> omega
    by_cases h0 : n = 0
    · subst h0
      exact ⟨0, 0, fun _ => 0, hl, by omega, FlatAt.zero _ _ _ _ _ _ _⟩
    · obtain ⟨b, off, rfl, hc⟩ := ints_at hcell (by omega)
      refine ⟨b, off, fun j => zs.getD j 0, hl, by omega, fun _ => ⟨rfl, Nat.zero_le _, ?_⟩, fun j hj => hc j (by omega)⟩
      have h1 := hc 0 (by omega)
      rcases Nat.lt_or_ge b W.heap.size with h2 | h2
      · exact h2
      · unfold World.cell? at h1
        rw [Array.getElem?_eq_none (by show _ ≤ b; omega)] at h1
        simp at h1

end Go.Proofs.Ytnkhjlpeeljelaa
