/- Boxes that a program makes: a row of boxes that grows, each with a row of bags that grows. -/
import Derived.Test.YtnkhjlpeeljelaaNestBox
import Derived.Test.YtnkhjlpeeljelaaBlk
import Derived.Laws.OwnMore
namespace Go.Proofs.Ytnkhjlpeeljelaa
open Go.RowKit
set_option linter.unusedVariables false

/-- A box: class, weight, bags. -/
abbrev Bx := Int × Int × List Int
def bxD : Bx := (0, 0, [])
theorem own_sliceB {w : World} {B : Nat} {e : TypeId} {k : Nat} {v : Value} {n : Nat} {xs : List Value} (h : w.ownsRow B e k v n xs) : ∃ p c, v = .slice p n c := by
  rcases h.2 with ⟨rfl, h0⟩ | ⟨g, c, _, rfl, -⟩
  · exact ⟨none, 0, by rw [h0]⟩
  · exact ⟨_, _, rfl⟩
theorem own_keepB {w w' : World} {B : Nat} {e : TypeId} {k : Nat} {v : Value} {n : Nat} {xs : List Value} (h : w.ownsRow B e k v n xs) {r : Option Nat} (hg : w.grownBy w' r) (hne : ∀ b, v.ownBlock = some b → r ≠ some b) : w'.ownsRow B e k v n xs :=
  h.kept hg (by
    cases hv : v.ownBlock with
    | none => exact .inl rfl
    | some b => exact .inr (fun e => hne b hv e.symm))
/-- Rows of unlike types lie in unlike blocks. -/
theorem own_apart {w : World} {B B' : Nat} {e e' : TypeId} {k k' : Nat} {v v' : Value} {n n' : Nat} {xs xs' : List Value} (h : w.ownsRow B e k v n xs) (h' : w.ownsRow B' e' k' v' n' xs') (hne : e ≠ e') (b : Nat) (hb : v.ownBlock = some b) : v'.ownBlock ≠ some b := by
  intro hb'
  rcases h.2 with ⟨rfl, -⟩ | ⟨g, cap, cur, rfl, -, hc, -⟩
  · cases hb
  rcases h'.2 with ⟨rfl, -⟩ | ⟨g', cap', cur', rfl, -, hc', -⟩
  · cases hb'
  injection hb with hb
  injection hb' with hb'
  subst hb
  simp at hb'
  subst hb'
  rw [hc] at hc'
  injection hc' with hc'
  injection hc' with _ ht
  exact hne ht

/-- v holds the boxes L, in blocks from B on; they may be written, and no two of their rows of bags share a block. -/
def BxO (w : World) (B : Nat) (v : Value) (L : List Bx) : Prop :=
  ∃ (xs : List Value) (s : Nat → Value), w.ownsRow B 74 3 v L.length xs ∧
    (∀ i, i < L.length → xs[i * 3]? = some (.int .i64 (L.getD i bxD).1) ∧ xs[i * 3 + 1]? = some (.int .i64 (L.getD i bxD).2.1) ∧ xs[i * 3 + 2]? = some (s i)) ∧
    (∀ i, i < L.length → w.ownsRow B 3 1 (s i) (L.getD i bxD).2.2.length ((L.getD i bxD).2.2.map (.int .i64))) ∧
    (∀ i j, i < j → j < L.length → ∀ b, (s i).ownBlock = some b → (s j).ownBlock ≠ some b)
theorem BxO.grown {w w' : World} {B : Nat} {v : Value} {L : List Bx} (h : BxO w B v L) {r : Option Nat} (hg : w.grownBy w' r) (hr : ∀ b, r = some b → b < B) : BxO w' B v L := by
  obtain ⟨xs, s, h1, h2, h3, h4⟩ := h
  exact ⟨xs, s, own_keepB h1 hg (fun b hb e => by have := (h1.lt b hb).1; have := hr b e; omega), h2, fun i hi => own_keepB (h3 i hi) hg (fun b hb e => by have := ((h3 i hi).lt b hb).1; have := hr b e; omega), h4⟩
theorem BxO.later {w w' : World} {B : Nat} {v : Value} {L : List Bx} (h : BxO w B v L) (hb : Below w.heap.size w w') : BxO w' B v L := h.grown (grownBy.of_below hb none) (fun b e => by cases e)
theorem BxO.nil (w : World) (B : Nat) (hB : B ≤ w.heap.size) : BxO (w.alloc (.cells #[] 74)) B (.slice (some ⟨w.heap.size, 0, none⟩) 0 0) [] :=
  ⟨[], fun _ => .slice none 0 0, ⟨rfl, .inr ⟨w.heap.size, 0, #[], rfl, hB, heap_alloc_new w _, Nat.le_refl _, by unfold maxLen; omega, rfl, rfl⟩⟩, fun i hi => absurd hi (by simp), fun i hi => absurd hi (by simp), fun i j _ hj => absurd hj (by simp)⟩
/-- Its parts in a later world; where the rows of bags lie was settled before. -/
theorem BxO.parts {w w' : World} {B : Nat} {v : Value} {L : List Bx} (h : BxO w B v L) (hb : Below w.heap.size w w') :
    ∃ (xs : List Value) (s : Nat → Value), w'.ownsRow B 74 3 v L.length xs ∧
    (∀ i, i < L.length → xs[i * 3]? = some (.int .i64 (L.getD i bxD).1) ∧ xs[i * 3 + 1]? = some (.int .i64 (L.getD i bxD).2.1) ∧ xs[i * 3 + 2]? = some (s i)) ∧
    (∀ i, i < L.length → w'.ownsRow B 3 1 (s i) (L.getD i bxD).2.2.length ((L.getD i bxD).2.2.map (.int .i64))) ∧
    (∀ i j, i < j → j < L.length → ∀ b, (s i).ownBlock = some b → (s j).ownBlock ≠ some b) ∧ (∀ i, i < L.length → ∀ b, (s i).ownBlock = some b → b < w.heap.size) := by
  obtain ⟨xs, s, h1, h2, h3, h4⟩ := h
  have hg := grownBy.of_below hb none
  exact ⟨xs, s, own_keepB h1 hg (fun b _ e => by cases e), h2, fun i hi => own_keepB (h3 i hi) hg (fun b _ e => by cases e), h4, fun i hi b hb => ((h3 i hi).lt b hb).2⟩
theorem getD_push {L : List Bx} {x : Bx} (i : Nat) : (L ++ [x]).getD i bxD = if i = L.length then x else L.getD i bxD := by
  rw [List.getD_eq_getElem?_getD, List.getD_eq_getElem?_getD]
  by_cases e : i = L.length
  · subst e; rw [if_pos rfl]; simp
  · rw [if_neg e]
    rcases Nat.lt_or_ge i L.length with h | h
    · rw [List.getElem?_append_left h]
    · rw [List.getElem?_append_right (by omega), List.getElem?_eq_none (by simp; omega), List.getElem?_eq_none h]
/-- A box more at the end. -/
theorem BxO.pushP {w w4 : World} {B : Nat} {v v4 : Value} {L : List Bx} {xs : List Value} {s : Nat → Value} {x : Bx} {sv : Value}
    (h1 : w.ownsRow B 74 3 v L.length xs)
    (h2 : ∀ i, i < L.length → xs[i * 3]? = some (.int .i64 (L.getD i bxD).1) ∧ xs[i * 3 + 1]? = some (.int .i64 (L.getD i bxD).2.1) ∧ xs[i * 3 + 2]? = some (s i))
    (h3 : ∀ i, i < L.length → w.ownsRow B 3 1 (s i) (L.getD i bxD).2.2.length ((L.getD i bxD).2.2.map (.int .i64)))
    (h4 : ∀ i j, i < j → j < L.length → ∀ b, (s i).ownBlock = some b → (s j).ownBlock ≠ some b)
    (hs : w.ownsRow B 3 1 sv x.2.2.length (x.2.2.map (.int .i64))) (hd : ∀ i, i < L.length → ∀ b, (s i).ownBlock = some b → sv.ownBlock ≠ some b)
    (h5 : w4.ownsRow B 74 3 v4 (L.length + 1) (xs ++ [.int .i64 x.1, .int .i64 x.2.1, sv])) (hg : w.grownBy w4 v.ownBlock) : 
    ∃ s' : Nat → Value, s' L.length = sv ∧ w4.ownsRow B 74 3 v4 (L ++ [x]).length (xs ++ [.int .i64 x.1, .int .i64 x.2.1, sv]) ∧
    (∀ i, i < (L ++ [x]).length → (xs ++ [.int .i64 x.1, .int .i64 x.2.1, sv])[i * 3]? = some (.int .i64 ((L ++ [x]).getD i bxD).1) ∧ (xs ++ [.int .i64 x.1, .int .i64 x.2.1, sv])[i * 3 + 1]? = some (.int .i64 ((L ++ [x]).getD i bxD).2.1) ∧ (xs ++ [.int .i64 x.1, .int .i64 x.2.1, sv])[i * 3 + 2]? = some (s' i)) ∧
    (∀ i, i < (L ++ [x]).length → w4.ownsRow B 3 1 (s' i) ((L ++ [x]).getD i bxD).2.2.length (((L ++ [x]).getD i bxD).2.2.map (.int .i64))) ∧
    (∀ i j, i < j → j < (L ++ [x]).length → ∀ b, (s' i).ownBlock = some b → (s' j).ownBlock ≠ some b) := by
  have hlen : xs.length = L.length * 3 := h1.1
  have hT : (3 : TypeId) ≠ 74 := by decide
  refine ⟨fun i => if i = L.length then sv else s i, if_pos rfl, by rw [List.length_append]; exact h5, fun i hi => ?_, fun i hi => ?_, fun i j hij hj => ?_⟩
  · rw [getD_push]
    rw [List.length_append] at hi
    simp at hi
    by_cases e : i = L.length
    · subst e
      rw [if_pos rfl]
      refine ⟨?_, ?_, ?_⟩
      · rw [List.getElem?_append_right (by omega), hlen, Nat.sub_self]; rfl
      · rw [List.getElem?_append_right (by omega), hlen, Nat.add_sub_cancel_left]; rfl
      · show _ = some (if L.length = L.length then sv else s L.length)
        rw [if_pos rfl, List.getElem?_append_right (by omega), hlen, Nat.add_sub_cancel_left]; rfl
    · rw [if_neg e]
      show _ ∧ _ ∧ _ = some (if i = L.length then sv else s i)
      rw [if_neg e, List.getElem?_append_left (by omega), List.getElem?_append_left (by omega), List.getElem?_append_left (by omega)]
      exact h2 i (by omega)
  · rw [getD_push]
    rw [List.length_append] at hi
    simp at hi
    by_cases e : i = L.length
    · subst e
      rw [if_pos rfl]
      simp only [if_pos]
      exact own_keepB hs hg (fun b hb => own_apart hs h1 hT b hb)
    · rw [if_neg e]
      simp only [if_neg e]
      exact own_keepB (h3 i (by omega)) hg (fun b hb => own_apart (h3 i (by omega)) h1 hT b hb)
  · rw [List.length_append] at hj
    simp at hj
    intro b hb
    simp only [if_neg (show i ≠ L.length by omega)] at hb
    by_cases e : j = L.length
    · simp only [if_pos e]; exact hd i (by omega) b hb
    · simp only [if_neg e]; exact h4 i j hij (by omega) b hb
theorem BxO.push {w w4 : World} {B : Nat} {v v4 : Value} {L : List Bx} {xs : List Value} {s : Nat → Value} {x : Bx} {sv : Value}
    (h1 : w.ownsRow B 74 3 v L.length xs)
    (h2 : ∀ i, i < L.length → xs[i * 3]? = some (.int .i64 (L.getD i bxD).1) ∧ xs[i * 3 + 1]? = some (.int .i64 (L.getD i bxD).2.1) ∧ xs[i * 3 + 2]? = some (s i))
    (h3 : ∀ i, i < L.length → w.ownsRow B 3 1 (s i) (L.getD i bxD).2.2.length ((L.getD i bxD).2.2.map (.int .i64)))
    (h4 : ∀ i j, i < j → j < L.length → ∀ b, (s i).ownBlock = some b → (s j).ownBlock ≠ some b)
    (hs : w.ownsRow B 3 1 sv x.2.2.length (x.2.2.map (.int .i64))) (hd : ∀ i, i < L.length → ∀ b, (s i).ownBlock = some b → sv.ownBlock ≠ some b)
    (h5 : w4.ownsRow B 74 3 v4 (L.length + 1) (xs ++ [.int .i64 x.1, .int .i64 x.2.1, sv])) (hg : w.grownBy w4 v.ownBlock) : BxO w4 B v4 (L ++ [x]) := by
  obtain ⟨s', -, a, b, c, d⟩ := BxO.pushP h1 h2 h3 h4 hs hd h5 hg
  exact ⟨_, s', a, b, c, d⟩

theorem getD_set {L : List Bx} {x : Bx} {i : Nat} (hi : i < L.length) (j : Nat) : (L.set i x).getD j bxD = if j = i then x else L.getD j bxD := by
  rw [List.getD_eq_getElem?_getD, List.getD_eq_getElem?_getD]
  by_cases e : j = i
  · subst e; rw [if_pos rfl, List.getElem?_set_self hi]; rfl
  · rw [if_neg e, List.getElem?_set_ne (fun h => e h.symm)]
/-- The three cells of a struct, written. -/
def put3 (w : World) (g o : Nat) (a b c : Value) : World := ((w.setCell ⟨g, o, none⟩ a).setCell ⟨g, o + 1, none⟩ b).setCell ⟨g, o + 2, none⟩ c
theorem put3_own {w : World} {B : Nat} {e : TypeId} {k : Nat} {g n cap : Nat} {xs : List Value} (h : w.ownsRow B e k (.slice (some ⟨g, 0, none⟩) n cap) n xs) (o : Nat) (a b c : Value) :
    (put3 w g o a b c).ownsRow B e k (.slice (some ⟨g, 0, none⟩) n cap) n (((xs.set o a).set (o + 1) b).set (o + 2) c) ∧ w.grownBy (put3 w g o a b c) (some g) := by
  obtain ⟨h1, g1⟩ := h.stored o a
  obtain ⟨h2, g2⟩ := h1.stored (o + 1) b
  obtain ⟨h3, g3⟩ := h2.stored (o + 2) c
  exact ⟨h3, (g1.trans g2).trans g3⟩
/-- Box i is replaced; its bags grew in w2. -/
theorem BxO.put {w w2 : World} {B G cap : Nat} {L : List Bx} {xs : List Value} {s : Nat → Value} {x : Bx} {g c i : Nat} (hi : i < L.length)
    (h1 : w.ownsRow B 74 3 (.slice (some ⟨G, 0, none⟩) L.length cap) L.length xs)
    (h2 : ∀ i, i < L.length → xs[i * 3]? = some (.int .i64 (L.getD i bxD).1) ∧ xs[i * 3 + 1]? = some (.int .i64 (L.getD i bxD).2.1) ∧ xs[i * 3 + 2]? = some (s i))
    (h3 : ∀ i, i < L.length → w.ownsRow B 3 1 (s i) (L.getD i bxD).2.2.length ((L.getD i bxD).2.2.map (.int .i64)))
    (h4 : ∀ i j, i < j → j < L.length → ∀ b, (s i).ownBlock = some b → (s j).ownBlock ≠ some b)
    (hg : w.grownBy w2 (s i).ownBlock) (ho : w2.ownsRow B 3 1 (.slice (some ⟨g, 0, none⟩) x.2.2.length c) x.2.2.length (x.2.2.map (.int .i64))) (hl : (s i).ownBlock = some g ∨ w.heap.size ≤ g) :
    BxO (put3 w2 G (i * 3) (.int .i64 x.1) (.int .i64 x.2.1) (.slice (some ⟨g, 0, none⟩) x.2.2.length c)) B (.slice (some ⟨G, 0, none⟩) L.length cap) (L.set i x) := by
  have hT : (3 : TypeId) ≠ 74 := by decide
  have hlen : xs.length = L.length * 3 := h1.1
  have k1 : w2.ownsRow B 74 3 (.slice (some ⟨G, 0, none⟩) L.length cap) L.length xs := own_keepB h1 hg (fun b hb e => own_apart (h3 i hi) h1 hT b e hb)
  obtain ⟨k2, g2⟩ := put3_own k1 (i * 3) (.int .i64 x.1) (.int .i64 x.2.1) (.slice (some ⟨g, 0, none⟩) x.2.2.length c)
  have hne : ∀ j, j < L.length → j ≠ i → ∀ b, (s j).ownBlock = some b → (s i).ownBlock ≠ some b := fun j hj hji b hb => by
    rcases Nat.lt_or_ge j i with h | h
    · exact h4 j i h hi b hb
    · intro e; exact h4 i j (by omega) hj b e hb
  have k3 : ∀ j, j < L.length → j ≠ i → w2.ownsRow B 3 1 (s j) (L.getD j bxD).2.2.length ((L.getD j bxD).2.2.map (.int .i64)) := fun j hj hji => own_keepB (h3 j hj) hg (fun b hb => hne j hj hji b hb)
  have hnew : ∀ j, j < L.length → j ≠ i → ∀ b, (s j).ownBlock = some b → g ≠ b := fun j hj hji b hb e => by
    subst e
    rcases hl with hl | hl
    · exact hne j hj hji g hb hl
    · have := ((h3 j hj).lt g hb).2; omega
  refine ⟨_, fun j => if j = i then .slice (some ⟨g, 0, none⟩) x.2.2.length c else s j, by rw [List.length_set]; exact k2, fun j hj => ?_, fun j hj => ?_, fun j j' hjj hj => ?_⟩
  · rw [List.length_set] at hj
    rw [getD_set hi]
    show _ ∧ _ ∧ _ = some (if j = i then _ else s j)
    by_cases e : j = i
    · subst e
      rw [if_pos rfl, if_pos rfl]
      refine ⟨?_, ?_, ?_⟩
      · rw [List.getElem?_set_ne (by omega), List.getElem?_set_ne (by omega), List.getElem?_set_self (by omega)]
      · rw [List.getElem?_set_ne (by omega), List.getElem?_set_self (by simp; omega)]
      · rw [List.getElem?_set_self (by simp; omega)]
    · rw [if_neg e, if_neg e]
      obtain ⟨a0, a1, a2⟩ := h2 j hj
      refine ⟨?_, ?_, ?_⟩
      · rw [List.getElem?_set_ne (by omega), List.getElem?_set_ne (by omega), List.getElem?_set_ne (by omega)]; exact a0
      · rw [List.getElem?_set_ne (by omega), List.getElem?_set_ne (by omega), List.getElem?_set_ne (by omega)]; exact a1
      · rw [List.getElem?_set_ne (by omega), List.getElem?_set_ne (by omega), List.getElem?_set_ne (by omega)]; exact a2
  · rw [List.length_set] at hj
    rw [getD_set hi]
    by_cases e : j = i
    · subst e
      rw [if_pos rfl]
      simp only [if_pos]
      exact own_keepB ho g2 (fun b hb => own_apart ho k1 hT b hb)
    · rw [if_neg e]
      simp only [if_neg e]
      exact own_keepB (k3 j hj e) g2 (fun b hb => own_apart (k3 j hj e) k1 hT b hb)
  · rw [List.length_set] at hj
    intro b hb
    by_cases e : j = i
    · have e2 : j' ≠ i := by omega
      simp only [if_pos e] at hb
      simp only [if_neg e2]
      intro hb2
      injection hb with hb
      exact hnew j' hj e2 b hb2 hb
    · simp only [if_neg e] at hb
      by_cases e2 : j' = i
      · simp only [if_pos e2]
        intro hb2
        injection hb2 with hb2
        exact hnew j (by omega) e b hb hb2
      · simp only [if_neg e2]
        exact h4 j j' hjj hj b hb

end Go.Proofs.Ytnkhjlpeeljelaa
