/- A row copied: append of a row that came in to an empty row of the call's own, nil or not. -/
import Derived.Test.YtlklggkkkbamhaaFlat
import Derived.Laws.AppendOwnNone
import Derived.OwnWalk
namespace Go.Proofs.Ytlklggkkkbamhaa
open Go.RowKit

theorem cellsAt_of_flat {w : World} {lo hi : Nat} {ad : Addr} {g o m : Nat} {f : Nat → Value} (h : FlatAt w lo hi (some ad) g o m f) : ∀ j u, ((List.range m).map f)[j]? = some u → w.cell? (ad.add j) = some u := by
  intro j u hu
  rw [List.getElem?_map] at hu
  by_cases hj : j < m
  · rw [List.getElem?_range hj] at hu
    obtain rfl : f j = u := by simpa using hu
    obtain ⟨e, -, -⟩ := h.1 (by omega)
    injection e with e
    subst e
    have := h.2 j hj
    unfold Addr.add
    split
    · next hs => subst hs; exact this
    · exact this
  · rw [List.getElem?_eq_none (by simp; omega)] at hu
    simp at hu

theorem ownsRow_slice {w : World} {base : Nat} {e : TypeId} {size n : Nat} {v : Value} {xs : List Value} (h : w.ownsRow base e size v n xs) : ∃ p c, v = .slice p n c ∧ n ≤ c := by
  rcases h.2 with ⟨h1, h2⟩ | ⟨g, cap, cur, h1, _, _, h3, _⟩
  · subst h2; exact ⟨none, 0, h1, Nat.le_refl _⟩
  · exact ⟨_, cap, h1, h3⟩

section
variable {P : Program} (w : World)
theorem run_copy (base : Nat) (t ty e : TypeId) (i : TypeInfo) (z : Value) (size bytes : Nat) (ht : P.underlying t = some (.slice e)) (hi : P.info? e = some i) (hz : i.zero = some z)
    (hsize : i.size = size) (hby : i.bytes = bytes) (hzs : z.cells.size = size) (hsz : 0 < size)
    (gE : Nat) (hE : w.heap[gE]? = some (.cells #[] e (0, 0))) (hbE : base ≤ gE) (p : Option Addr) (n c : Nat) (lo hh g o : Nat) (f : Nat → Value) (h : FlatAt w lo hh p g o (n * size) f) (h1 : ∀ j, j < n * size → (f j).oneCell' = true)
    (h63 : n ≤ maxLen) (hbytes : n * bytes ≤ 140737488355328) :
    ∃ p' c' w', (Builtin.append_ #[t, t] ty #[.slice (some ⟨gE, 0, none⟩) 0 0, .slice p n c]).run P w = .ok (.slice p' n c') w' ∧ n ≤ c' ∧ w'.ownsRow base e size (.slice p' n c') n ((List.range (n * size)).map f) ∧ w.grownBy w' (some gE) := by
  have hgl : gE < w.heap.size := (Array.getElem?_eq_some_iff.1 hE).1
  have hown : w.ownsRow base e size (.slice (some ⟨gE, 0, none⟩) 0 0) 0 [] := ⟨by simp, .inr ⟨gE, 0, #[], rfl, hbE, hE, Nat.le_refl _, by decide, by simp, by simp⟩⟩
  cases p with
  | none =>
    have hn : n = 0 := by
      rcases Nat.eq_zero_or_pos n with h0 | h0
      · exact h0
      · obtain ⟨e1, _⟩ := h.1 (Nat.mul_pos h0 hsz)
        cases e1
    subst hn
    refine ⟨some ⟨gE, 0, none⟩, 0, w, ?_, Nat.le_refl _, by simpa using hown, ⟨rfl, rfl, rfl, Nat.le_refl _, fun _ _ _ => rfl⟩⟩
    have hb := hown.2
    simp [Builtin.append_, run_underlying ht, sizeOf, typeInfo, hi, Builtin.lenOf, Builtin.firstCells, storeCells]
  | some ad =>
    obtain ⟨v', w', hrun, hown', hgrow, -⟩ := run_append_own (P := P) w base t ty e i z size bytes ht hi hz hsize hby hzs hsz _ 0 [] hown ad n c ((List.range (n * size)).map f) (by simp) (cellsAt_of_flat h)
      (by intro u hu; obtain ⟨j, hj, rfl⟩ := List.mem_map.1 hu; exact h1 j (List.mem_range.1 hj)) (by omega) (by rw [Nat.zero_add]; exact hbytes) (by omega)
    rw [Nat.zero_add, List.nil_append] at hown'
    obtain ⟨p', c', rfl, hc⟩ := ownsRow_slice hown'
    exact ⟨p', c', w', hrun, hc, hown', hgrow⟩

theorem wp_copy {o : Oper} {a : Act} {K : Act → World → Prop} {Q : Exit → Act → World → Prop} (s x : Operand) (t : TypeId)
    (ho : o.op = .call { callee := .builtin .append, args := #[s, x], argTypes := #[t, t] })
    (base : Nat) (e : TypeId) (i : TypeInfo) (z : Value) (size bytes : Nat) (ht : P.underlying t = some (.slice e)) (hi : P.info? e = some i) (hz : i.zero = some z)
    (hsize : i.size = size) (hby : i.bytes = bytes) (hzs : z.cells.size = size) (hsz : 0 < size)
    (gE : Nat) (hs : a.eval s = .slice (some ⟨gE, 0, none⟩) 0 0) (hE : w.heap[gE]? = some (.cells #[] e (0, 0))) (hbE : base ≤ gE) (p : Option Addr) (n c : Nat) (hx : a.eval x = .slice p n c) (lo hh g oo : Nat) (f : Nat → Value) (h : FlatAt w lo hh p g oo (n * size) f) (h1 : ∀ j, j < n * size → (f j).oneCell' = true)
    (h63 : n ≤ maxLen) (hbytes : n * bytes ≤ 140737488355328)
    (hk : ∀ p' c' w', n ≤ c' → w'.ownsRow base e size (.slice p' n c') n ((List.range (n * size)).map f) → w.grownBy w' (some gE) → K (a.put o.dst (.slice p' n c')) w') : o.wp P a w K Q := by
  obtain ⟨p', c', w', hrun, h2, h3, h4⟩ := run_copy (P := P) w base t o.type e i z size bytes ht hi hz hsize hby hzs hsz gE hE hbE p n c lo hh g oo f h h1 h63 hbytes
  unfold Oper.wp execOp
  simp only [ho, resolve, invoke, builtin, Sem.run_bind, Sem.run_pure, Result.andThen_ok, List.map_toArray, List.map_cons, List.map_nil, hs, hx, hrun]
  exact hk p' c' w' h2 h3 h4

theorem wpList_copy {ops : Array Oper} {rest : List Oper} {o : Oper} {a : Act} {Q : Exit → Act → World → Prop} (hgd : o.guard = none) (s x : Operand) (t : TypeId)
    (ho : o.op = .call { callee := .builtin .append, args := #[s, x], argTypes := #[t, t] })
    (base : Nat) (e : TypeId) (i : TypeInfo) (z : Value) (size bytes : Nat) (ht : P.underlying t = some (.slice e)) (hi : P.info? e = some i) (hz : i.zero = some z)
    (hsize : i.size = size) (hby : i.bytes = bytes) (hzs : z.cells.size = size) (hsz : 0 < size)
    (gE : Nat) (hs : a.eval s = .slice (some ⟨gE, 0, none⟩) 0 0) (hE : w.heap[gE]? = some (.cells #[] e (0, 0))) (hbE : base ≤ gE) (p : Option Addr) (n c : Nat) (hx : a.eval x = .slice p n c) (lo hh g oo : Nat) (f : Nat → Value) (h : FlatAt w lo hh p g oo (n * size) f) (h1 : ∀ j, j < n * size → (f j).oneCell' = true)
    (h63 : n ≤ maxLen) (hbytes : n * bytes ≤ 140737488355328)
    (hk : ∀ p' c' w', n ≤ c' → w'.ownsRow base e size (.slice p' n c') n ((List.range (n * size)).map f) → w.grownBy w' (some gE) → wpList P ops Q rest (a.put o.dst (.slice p' n c')) w') : wpList P ops Q (o :: rest) a w :=
  wpList_plain hgd fun _ hK => wp_copy w s x t ho base e i z size bytes ht hi hz hsize hby hzs hsz gE hs hE hbE p n c hx lo hh g oo f h h1 h63 hbytes fun p' c' w' h2 h3 h4 => hK _ _ (hk p' c' w' h2 h3 h4)
end

end Go.Proofs.Ytlklggkkkbamhaa
