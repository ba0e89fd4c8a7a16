/- What boxes are right, in plain words: box k has the class a (k * 3), the weight a (k * 3 + 1), and the bags xx k, nn k of them. -/
import Derived.Test.YtnkhjlpeeljelaaPieceAt
import Derived.Test.YtnkhjlpeeljelaaDiffer
import Derived.Test.YtnkhjlpeeljelaaNest
namespace Go.Proofs.Ytnkhjlpeeljelaa
open Go.Maps

/-- The place of a bag's piece. -/
def pcF (z : Nat → Int) (b : Int) : Nat → Option Nat
  | 0 => none
  | k + 1 => match pcF z b k with | some i => some i | none => if z (k * 3) = b then some k else none
theorem pcF_iff (z : Nat → Int) (b : Int) (n : Nat) : (∀ k, pcF z b n = some k → PcAt z n b k) ∧ (pcF z b n = none → ∀ j, j < n → z (j * 3) ≠ b) := by
  induction n with
  | zero => exact ⟨fun k h => (by cases h), fun _ j hj => absurd hj (by omega)⟩
  | succ n ih =>
    rcases hp : pcF z b n with _ | i
    · have h0 := ih.2 hp
      by_cases e : z (n * 3) = b
      · refine ⟨fun k h => ?_, fun h => ?_⟩
        · simp only [pcF, hp, if_pos e] at h
          injection h with h
          subst h
          exact ⟨by omega, e, h0⟩
        · simp only [pcF, hp, if_pos e] at h
          cases h
      · refine ⟨fun k h => ?_, fun _ j hj => ?_⟩
        · simp only [pcF, hp, if_neg e] at h
          cases h
        · by_cases ej : j = n
          · subst ej; exact e
          · exact h0 j (by omega)
    · have h0 := ih.1 i hp
      refine ⟨fun k h => ?_, fun h => ?_⟩
      · simp only [pcF, hp] at h
        injection h with h
        subst h
        exact ⟨by have := h0.1; omega, h0.2⟩
      · simp only [pcF, hp] at h
        cases h
/-- The weight of the first j bags, if all of them have pieces of the class. -/
def bxW (n : Nat) (z : Nat → Int) (cls : Int) (x : Nat → Int) : Nat → Option Int
  | 0 => some 0
  | j + 1 => match bxW n z cls x j with
    | none => none
    | some s => match pcF z (x j) n with
      | none => none
      | some k => if z (k * 3 + 2) = cls then some (s + z (k * 3 + 1)) else none
def bxOk (W C : Int) (n : Nat) (z : Nat → Int) (cls wt : Int) (m : Nat) (x : Nat → Int) : Prop := ((1 : Int) ≤ m ∧ (m : Int) ≤ C) ∧ bxW n z cls x m = some wt ∧ wt ≤ W
instance (W C : Int) (n : Nat) (z : Nat → Int) (cls wt : Int) (m : Nat) (x : Nat → Int) : Decidable (bxOk W C n z cls wt m x) := by unfold bxOk; exact inferInstance
def brow (x : Nat → Int) (k : Nat) : List Int := (List.range k).map x
def bagN (nn : Nat → Nat) (xx : Nat → Nat → Int) : Nat → List Int
  | 0 => []
  | n + 1 => bagN nn xx n ++ brow (xx n) (nn n)
def bxsOk (W C : Int) (n : Nat) (z : Nat → Int) (m : Nat) (a : Nat → Int) (nn : Nat → Nat) (xx : Nat → Nat → Int) : Prop :=
  (liB W C = true ∧ pcsOk n z) ∧ (∀ k, k < m → bxOk W C n z (a (k * 3)) (a (k * 3 + 1)) (nn k) (xx k)) ∧ (bagN nn xx m).length = n ∧ (bagN nn xx m).Nodup
instance (W C : Int) (n : Nat) (z : Nat → Int) (m : Nat) (a : Nat → Int) (nn : Nat → Nat) (xx : Nat → Nat → Int) : Decidable (bxsOk W C n z m a nn xx) := by unfold bxsOk; exact inferInstance
theorem bxW_in {n : Nat} {z : Nat → Int} {cls : Int} {x : Nat → Int} (h : pcsOk n z) (m : Nat) {s : Int} (hs : bxW n z cls x m = some s) : 0 ≤ s ∧ s ≤ m * 60 := by
  induction m generalizing s with
  | zero => injection hs with hs; omega
  | succ m ih =>
    unfold bxW at hs
    rcases h1 : bxW n z cls x m with _ | s'
    · rw [h1] at hs; cases hs
    · rw [h1] at hs
      have h2 := ih h1
      rcases h3 : pcF z (x m) n with _ | k
      · rw [h3] at hs; cases hs
      · rw [h3] at hs
        have h4 := (pcF_iff z (x m) n).1 k h3
        have h5 := (h.2.1 k h4.1).1
        by_cases e : z (k * 3 + 2) = cls
        · simp only [if_pos e] at hs
          injection hs with hs
          omega
        · simp only [if_neg e] at hs
          cases hs
theorem bxW_stop {n : Nat} {z : Nat → Int} {cls : Int} {x : Nat → Int} {j m : Nat} (h : bxW n z cls x j = none) (hjm : j ≤ m) : bxW n z cls x m = none := by
  induction m with
  | zero => obtain rfl : j = 0 := by omega
            exact h
  | succ m ih =>
    by_cases e : j = m + 1
    · subst e; exact h
    · unfold bxW; rw [ih (by omega)]
theorem brow_len (x : Nat → Int) (k : Nat) : (brow x k).length = k := by simp [brow]
theorem brow_succ (x : Nat → Int) (k : Nat) : brow x (k + 1) = brow x k ++ [x k] := by unfold brow; rw [List.range_succ, List.map_append]; rfl
theorem bagN_len (nn : Nat → Nat) (xx : Nat → Nat → Int) (n : Nat) : (bagN nn xx n).length = totN nn n := by
  induction n with
  | zero => rfl
  | succ n ih => show (bagN nn xx n ++ brow (xx n) (nn n)).length = totN nn n + nn n; rw [List.length_append, ih, brow_len]
theorem bagN_pre {nn : Nat → Nat} {xx : Nat → Nat → Int} {i n : Nat} (h : i ≤ n) : bagN nn xx i <+: bagN nn xx n := by
  induction n with
  | zero => obtain rfl : i = 0 := by omega
            exact List.prefix_rfl
  | succ n ih =>
    by_cases e : i = n + 1
    · subst e; exact List.prefix_rfl
    · exact (ih (by omega)).trans (List.prefix_append _ _)
theorem brow_pre {x : Nat → Int} {k m : Nat} (h : k ≤ m) : brow x k <+: brow x m := by
  induction m with
  | zero => obtain rfl : k = 0 := by omega
            exact List.prefix_rfl
  | succ m ih =>
    by_cases e : k = m + 1
    · subst e; exact List.prefix_rfl
    · rw [brow_succ]; exact (ih (by omega)).trans (List.prefix_append _ _)
theorem bags_pre {nn : Nat → Nat} {xx : Nat → Nat → Int} {i n k : Nat} (h : i < n) (hk : k ≤ nn i) : bagN nn xx i ++ brow (xx i) k <+: bagN nn xx n :=
  ((List.prefix_append_right_inj _).2 (brow_pre hk)).trans (bagN_pre (show i + 1 ≤ n from h))
theorem nodup_pre {a b : List Int} (h : a <+: b) (hb : b.Nodup) : a.Nodup := by
  obtain ⟨t, rfl⟩ := h
  exact (List.nodup_append.1 hb).1
theorem nodup_one {a : List Int} {x : Int} : (a ++ [x]).Nodup ↔ a.Nodup ∧ x ∉ a := by
  constructor
  · intro h
    refine ⟨nodup_pre (List.prefix_append _ _) h, ?_⟩
    have := List.nodup_append.1 h
    intro hx
    exact this.2.2 x hx x (by simp) rfl
  · rintro ⟨h1, h3⟩
    refine List.nodup_append.2 ⟨h1, by simp, ?_⟩
    intro y hy z hz e
    obtain rfl : z = x := by simpa using hz
    subst e
    exact h3 hy
theorem dif_list (l : List Int) : dif (fun j => l.getD j 0) l.length ↔ l.Nodup := by
  have hget : ∀ j (h : j < l.length), l.getD j 0 = l[j] := fun j h => by rw [List.getD_eq_getElem?_getD, List.getElem?_eq_getElem h]; rfl
  unfold dif
  rw [List.nodup_iff_pairwise_ne, List.pairwise_iff_getElem]
  constructor
  · intro h i j hi hj hij
    rw [← hget i hi, ← hget j hj]; exact h i j hij hj
  · intro h i j hij hj
    show l.getD i 0 ≠ l.getD j 0
    rw [hget j hj, hget i (by omega)]; exact h i j (by omega) hj hij
theorem bagN_wf {nn : Nat → Nat} {xx : Nat → Nat → Int} {n : Nat} (h : ∀ i, i < n → ∀ j, j < nn i → (Lit.int .i64 (xx i j)).wf = true) : ∀ x, x ∈ bagN nn xx n → (Lit.int .i64 x).wf = true := by
  induction n with
  | zero => intro x hx; cases hx
  | succ n ih =>
    intro x hx
    rcases List.mem_append.1 hx with h1 | h1
    · exact ih (fun i hi => h i (by omega)) x h1
    · obtain ⟨j, hj, e⟩ := List.mem_map.1 h1
      rw [← e]
      exact h n (by omega) j (by simpa using hj)

end Go.Proofs.Ytnkhjlpeeljelaa
