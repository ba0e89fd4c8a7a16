/- What the closure that fills the places keeps from call to call. -/
import Derived.Test.YtjdmagackoddaaaDoorPlaces
import Derived.Test.YtjdmagackoddaaaDoorCandSpec
import Derived.Test.YtjdmagackoddaaaDoorParseTagImpl
import Derived.OneCell
namespace Go.Proofs.YtjdmagackoddaaaDoor
open Go.RowKit
set_option linter.unusedVariables false

/-- What does not turn while the places are filled: the start's world, the blocks of the captured variables, the text's block, the places. -/
structure Cap where
  w0 : World
  bP : Nat
  bT : Nat
  bL : Nat
  bF : Nat
  g : Nat
  capT : Nat
  tP : TypeId
  tT : TypeId
  tL : TypeId
  tF : TypeId
  vP : Value
  vF : Value
  ps : List Nat
structure Cap.Good (c : Cap) : Prop where
  oL : c.w0.heap.size ≤ c.bL
  og : c.w0.heap.size ≤ c.g
  pl : c.bP ≠ c.bL
  tl : c.bT ≠ c.bL
  fl : c.bF ≠ c.bL
  gl : c.g ≠ c.bL
  pg : c.bP ≠ c.g
  tg : c.bT ≠ c.g
  fg : c.bF ≠ c.g
  yP : c.tP ≠ 29
  yT : c.tT ≠ 29
  yL : c.tL ≠ 29
  yF : c.tF ≠ 29
  yI : c.tL ≠ 3
  plt : ∀ p ∈ c.ps, p < 12
  pn : c.ps.length ≤ 3
structure CI (c : Cap) (b : List UInt8) (acc : List (Nat × Nat × Nat)) (vL : Value) (w : World) : Prop where
  bel : Below c.w0.heap.size c.w0 w
  hP : w.heap[c.bP]? = some (.cells #[c.vP] c.tP (0, 0))
  rP : w.ownsRow c.w0.heap.size 3 1 c.vP c.ps.length (c.ps.map fun p : Nat => Value.int .i64 (p : Int))
  hT : w.heap[c.bT]? = some (.cells #[.slice (some ⟨c.g, 0, none⟩) 12 c.capT] c.tT (0, 0))
  tx : TX w c.g b
  kg : ∃ cs fz, w.heap[c.g]? = some (.cells cs 5 fz)
  hF : w.heap[c.bF]? = some (.cells #[c.vF] c.tF (0, 0))
  hL : w.heap[c.bL]? = some (.cells #[vL] c.tL (0, 0))
  rL : w.ownsRow c.w0.heap.size 29 3 vL acc.length (acc.flatMap tagCell)

theorem row_ne {w : World} {base : Nat} {e : TypeId} {size : Nat} {v : Value} {n : Nat} {xs : List Value} (h : w.ownsRow base e size v n xs) {k : Nat} {c : Array Value} {t : TypeId} {f : Nat × Nat} (hk : w.heap[k]? = some (.cells c t f)) (ht : t ≠ e) : some k ≠ v.ownBlock := by
  intro h0
  rcases h.2 with ⟨rfl, _⟩ | ⟨g, cap, cur, rfl, _, hg, _⟩
  · simp [Value.ownBlock] at h0
  · simp [Value.ownBlock] at h0
    rw [← h0, hk] at hg
    injection hg with hg
    injection hg with _ h2 _
    exact ht h2
theorem CI.drew {c : Cap} {b : List UInt8} {acc : List (Nat × Nat × Nat)} {vL : Value} {w : World} (h : CI c b acc vL w) : CI c b acc vL w.drew :=
  ⟨h.bel.drew, h.hP, h.rP, h.hT, h.tx, h.kg, h.hF, h.hL, h.rL⟩
theorem CI.below {c : Cap} {b : List UInt8} {acc : List (Nat × Nat × Nat)} {vL : Value} {w w' : World} (h : CI c b acc vL w) (hb : Below w.heap.size w w') : CI c b acc vL w' := by
  have k : ∀ {i : Nat} {o : Obj}, w.heap[i]? = some o → w'.heap[i]? = some o := fun {i o} hi => (hb.block i (lt_of_block hi)).trans hi
  obtain ⟨cs, fz, hcs⟩ := h.kg
  exact ⟨h.bel.trans (hb.mono h.bel.size), k h.hP, own_below h.rP hb, k h.hT, h.tx.below hb h.tx.1, ⟨cs, fz, k hcs⟩, k h.hF, k h.hL, own_below h.rL hb⟩
/-- A byte of the text is written. -/
theorem CI.setText {c : Cap} (G : c.Good) {b : List UInt8} {acc : List (Nat × Nat × Nat)} {vL : Value} {w : World} (h : CI c b acc vL w) (p : Nat) (hp : p < 12) (x : UInt8) : CI c (b.set p x) acc vL (w.setCell ⟨c.g, p, none⟩ (byt x)) := by
  have k : ∀ {i : Nat} {o : Obj}, i ≠ c.g → w.heap[i]? = some o → (w.setCell ⟨c.g, p, none⟩ (byt x)).heap[i]? = some o := fun {i o} hn hi => (Below.heap_setCell _ _ _ _ hn).trans hi
  obtain ⟨cs, fz, hcs⟩ := h.kg
  refine ⟨h.bel.setCell G.og _, k G.pg h.hP, ownsRow_setCell_other h.rP (fun e => row_ne h.rP hcs (by decide) e.symm) _, k G.tg h.hT, h.tx.set p x hp, ?_, k G.fg h.hF, k G.gl.symm h.hL, ownsRow_setCell_other h.rL (fun e => row_ne h.rL hcs (by decide) e.symm) _⟩
  have hlt := lt_of_block hcs
  have h' : w.heap[c.g] = .cells cs 5 fz := by simpa [Array.getElem?_eq_getElem hlt] using hcs
  refine ⟨cs.setIfInBounds p (byt x), fz, ?_⟩
  show (w.heap.modify c.g _)[c.g]? = _
  rw [Array.getElem?_eq_getElem (by simpa using hlt), Array.getElem_modify_self, h']
  rfl
/-- The list is appended to, and stored. -/
theorem CI.setList {c : Cap} (G : c.Good) {b : List UInt8} {acc acc' : List (Nat × Nat × Nat)} {vL v' : Value} {w w3 : World} (h : CI c b acc vL w) (hg : w.grownBy w3 vL.ownBlock)
    (hr : w3.ownsRow c.w0.heap.size 29 3 v' acc'.length (acc'.flatMap tagCell)) : CI c b acc' v' (w3.setCell ⟨c.bL, 0, none⟩ v') := by
  have k : ∀ {i : Nat} {cs : Array Value} {t : TypeId} {fz : Nat × Nat}, t ≠ 29 → w.heap[i]? = some (.cells cs t fz) → w3.heap[i]? = some (.cells cs t fz) := fun {i cs t fz} ht hi => (hg.block i (lt_of_block hi) (row_ne h.rL hi ht)).trans hi
  have k2 : ∀ {i : Nat} {o : Obj}, i ≠ c.bL → w3.heap[i]? = some o → (w3.setCell ⟨c.bL, 0, none⟩ v').heap[i]? = some o := fun {i o} hn hi => (Below.heap_setCell _ _ _ _ hn).trans hi
  obtain ⟨cs, fz, hcs⟩ := h.kg
  have hgne : some c.g ≠ vL.ownBlock := row_ne h.rL hcs (by decide)
  have hL3 := k G.yL h.hL
  have hrP3 : w3.ownsRow c.w0.heap.size 3 1 c.vP c.ps.length (c.ps.map fun p : Nat => Value.int .i64 (p : Int)) := by
    refine h.rP.kept hg ?_
    rcases h.rP.2 with ⟨hv, _⟩ | ⟨g', cap, cur, hv, _, hgg, _⟩
    · exact .inl (by rw [hv]; rfl)
    · refine .inr ?_
      have := row_ne h.rL hgg (by decide)
      rw [hv]
      exact this
  have htx3 : TX w3 c.g b := h.tx.grown hg hgne
  refine ⟨?_, k2 G.pl (k G.yP h.hP), ownsRow_setCell_other hrP3 (fun e => row_ne hrP3 hL3 G.yI e.symm) _, k2 G.tl (k G.yT h.hT), ?_, ⟨cs, fz, k2 G.gl (k (by decide) hcs)⟩, k2 G.fl (k G.yF h.hF), one_setCell hL3, ownsRow_setCell_other hr (fun e => row_ne hr hL3 G.yL e.symm) _⟩
  · exact (h.bel.grown hg h.bel.size (fun j hj => (h.rL.lt j hj).1)).setCell G.oL _
  · refine ⟨by simpa [World.setCell] using htx3.1, htx3.2.1, fun j hj => ⟨?_, ?_⟩⟩
    · rw [World.cell?_of_block (w := w3) (Below.heap_setCell _ _ _ _ G.gl)]; exact (htx3.2.2 j hj).1
    · rw [World.frozen?_of_block (w := w3) (Below.heap_setCell _ _ _ _ G.gl)]; exact (htx3.2.2 j hj).2

/-- Two texts that differ at those places alone. -/
def agr (ps : List Nat) (b b' : List UInt8) : Prop := b'.length = b.length ∧ ∀ j, j ∉ ps → b'.getD j 0 = b.getD j 0
theorem agr.refl (ps : List Nat) (b : List UInt8) : agr ps b b := ⟨rfl, fun _ _ => rfl⟩
theorem agr.mono {ps : List Nat} {p : Nat} {b b' : List UInt8} (h : agr ps b b') : agr (p :: ps) b b' := ⟨h.1, fun j hj => h.2 j (fun e => hj (List.mem_cons_of_mem _ e))⟩
theorem agr.trans {ps : List Nat} {a b c : List UInt8} (h : agr ps a b) (k : agr ps b c) : agr ps a c := ⟨k.1.trans h.1, fun j hj => (k.2 j hj).trans (h.2 j hj)⟩
theorem agr_set (ps : List Nat) (p : Nat) (b : List UInt8) (x : UInt8) : agr (p :: ps) b (b.set p x) := ⟨by simp, fun j hj => by rw [getD_set, if_neg (by intro e; exact hj (by rw [e.1]; exact List.mem_cons_self ..))]⟩
theorem fills_agr : ∀ (ps : List Nat) (b b' : List UInt8), agr ps b b' → fills ps b' = fills ps b
  | [], b, b', h => by
    have e : b' = b := by
      apply List.ext_getElem h.1
      intro i h1 h2
      have := h.2 i (by simp)
      simpa [List.getD_eq_getElem?_getD, h1, h2] using this
    rw [e]
  | p :: ps, b, b', h => by
    rw [fills, fills]
    congr 1
    funext d
    apply fills_agr ps
    refine ⟨by simpa using h.1, fun j hj => ?_⟩
    rw [getD_set, getD_set, h.1]
    by_cases e : p = j ∧ j < b.length
    · rw [if_pos e, if_pos e]
    · rw [if_neg e, if_neg e]
      by_cases e2 : j = p
      · have hj2 : ¬ j < b.length := fun hh => e ⟨e2.symm, hh⟩
        rw [List.getD_eq_getElem?_getD, List.getD_eq_getElem?_getD, List.getElem?_eq_none (by rw [h.1]; omega), List.getElem?_eq_none (by omega)]
      · exact h.2 j (by simp only [List.mem_cons, not_or]; exact ⟨e2, hj⟩)
theorem flat_len {α : Type} (f : Nat → List α) (x : Nat) (h : ∀ i, (f i).length ≤ x) : ∀ d, ((List.range d).flatMap f).length ≤ d * x
  | 0 => by simp
  | d + 1 => by
    rw [List.range_succ, List.flatMap_append, List.length_append, Nat.succ_mul]
    have := flat_len f x h d
    have := h d
    simp only [List.flatMap_cons, List.flatMap_nil, List.append_nil]
    omega
theorem fills_len : ∀ (ps : List Nat) (b : List UInt8), (fills ps b).length ≤ 10 ^ ps.length
  | [], b => by simp [fills]
  | p :: ps, b => by
    rw [fills, List.length_cons, Nat.pow_succ, Nat.mul_comm]
    exact flat_len _ _ (fun i => fills_len ps _) 10
/-- The candidates of the first d digits at the place p. -/
def upTo (p : Nat) (ps : List Nat) (b : List UInt8) (d : Nat) : List (Nat × Nat × Nat) := ((List.range d).flatMap fun d => fills ps (b.set p (dg8 d))).filterMap tagOf
theorem upTo_succ (p : Nat) (ps : List Nat) (b : List UInt8) (d : Nat) : upTo p ps b (d + 1) = upTo p ps b d ++ (fills ps (b.set p (dg8 d))).filterMap tagOf := by
  unfold upTo
  rw [List.range_succ, List.flatMap_append, List.filterMap_append]
  simp
theorem upTo_len (p : Nat) (ps : List Nat) (b : List UInt8) (d : Nat) : (upTo p ps b d).length ≤ d * 10 ^ ps.length :=
  Nat.le_trans (List.length_filterMap_le _ _) (flat_len _ _ (fun i => fills_len ps _) d)
theorem agr_step {ps : List Nat} {p : Nat} {b b' : List UInt8} (h : agr (p :: ps) b b') (x : UInt8) : agr ps (b.set p x) (b'.set p x) := by
  refine ⟨by simpa using h.1, fun j hj => ?_⟩
  rw [getD_set, getD_set, h.1]
  by_cases e : p = j ∧ j < b.length
  · rw [if_pos e, if_pos e]
  · rw [if_neg e, if_neg e]
    by_cases e2 : j = p
    · have hj2 : ¬ j < b.length := fun hh => e ⟨e2.symm, hh⟩
      rw [List.getD_eq_getElem?_getD, List.getD_eq_getElem?_getD, List.getElem?_eq_none (by rw [h.1]; omega), List.getElem?_eq_none (by omega)]
    · exact h.2 j (by simp only [List.mem_cons, not_or]; exact ⟨e2, hj⟩)
theorem dg8_nat (d : Nat) (h : d < 10) : ((dg8 d).toNat : Int) = 48 + (d : Int) := by
  unfold dg8
  rw [dig_nat _ (by omega), Nat.mod_eq_of_lt h]
  omega

end Go.Proofs.YtjdmagackoddaaaDoor
