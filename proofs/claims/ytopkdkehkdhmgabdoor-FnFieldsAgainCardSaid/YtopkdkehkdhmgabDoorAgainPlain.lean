/- The fields of the fields, joined by spaces, are the fields. -/
import Derived.Test.YtopkdkehkdhmgabDoorFldPlain
namespace Go.Proofs.YtopkdkehkdhmgabDoor
open Go.RowKit
set_option linter.unusedVariables false

def piece (l : List UInt8) (p : Nat × Nat) : List UInt8 := (l.drop p.1).take (p.2 - p.1)
def joined (F : List (List UInt8)) : List UInt8 := F.flatMap (· ++ [32])
theorem joined_snoc (F : List (List UInt8)) (f : List UInt8) : joined (F ++ [f]) = joined F ++ (f ++ [32]) := by simp [joined]
theorem getD_append {l m : List UInt8} {i : Nat} : (l ++ m).getD i 0 = if i < l.length then l.getD i 0 else m.getD (i - l.length) 0 := by
  simp only [List.getD_eq_getElem?_getD, List.getElem?_append]
  split <;> rfl
theorem fld_append (l m : List UInt8) (k : Nat) (h : k ≤ l.length) : fld (l ++ m) k = fld l k := by
  induction k with
  | zero => rfl
  | succ k ih =>
    show fstep (l ++ m) (fld (l ++ m) k) k = fstep l (fld l k) k
    rw [ih (by omega)]
    unfold fstep
    rw [getD_append, if_pos (show k < l.length by omega)]
theorem fld_run (l : List UInt8) (a : Nat) : ∀ j, (∀ i, a ≤ i → i < a + j → l.getD i 0 ≠ 32) → fld l (a + j) = fld l a := by
  intro j
  induction j with
  | zero => intro _; rfl
  | succ j ih =>
    intro h
    rw [← Nat.add_assoc, fld_other (h (a + j) (by omega) (by omega))]
    exact ih fun i h1 h2 => h i h1 (by omega)
theorem piece_append {l m : List UInt8} {p : Nat × Nat} (h : p.2 ≤ l.length) : piece (l ++ m) p = piece l p := by
  unfold piece
  by_cases h1 : p.1 ≤ l.length
  · rw [List.drop_append_of_le_length h1, List.take_append_of_le_length (by rw [List.length_drop]; omega)]
  · have : p.2 - p.1 = 0 := by omega
    rw [this]; simp
theorem piece_end (l f m : List UInt8) : piece (l ++ (f ++ m)) (l.length, l.length + f.length) = f := by
  unfold piece
  simp
/-- Fields in order: none is empty, none holds a space. -/
def Fields (F : List (List UInt8)) : Prop := ∀ f ∈ F, f ≠ [] ∧ ∀ c ∈ f, c ≠ 32
theorem fld_joined (F : List (List UInt8)) (h : Fields F) : (fld (joined F) (joined F).length).1 = (joined F).length ∧ (fld (joined F) (joined F).length).2.map (piece (joined F)) = F ∧ ∀ p ∈ (fld (joined F) (joined F).length).2, p.2 ≤ (joined F).length := by
  obtain ⟨n, hn⟩ : ∃ n, n = F.length := ⟨_, rfl⟩
  induction n generalizing F with
  | zero => obtain rfl : F = [] := List.length_eq_zero_iff.1 hn.symm; exact ⟨rfl, rfl, fun p hp => by cases hp⟩
  | succ n ih =>
    obtain ⟨G, f, rfl⟩ : ∃ G f, F = G ++ [f] := by
      refine ⟨F.dropLast, F.getLast (by intro e; rw [e] at hn; cases hn), (List.dropLast_concat_getLast _).symm⟩
    obtain ⟨h1, h2, h3⟩ := ih G (fun g hg => h g (List.mem_append_left _ hg)) (by simp at hn; omega)
    obtain ⟨hf0, hf⟩ := h f (by simp)
    have hfl : 0 < f.length := List.length_pos_iff.2 hf0
    rw [joined_snoc]
    obtain ⟨L, hL⟩ : ∃ L, L = joined G := ⟨_, rfl⟩
    rw [← hL] at h1 h2 h3 ⊢
    have e1 : fld (L ++ (f ++ [32])) L.length = fld L L.length := fld_append _ _ _ (Nat.le_refl _)
    have e2 : fld (L ++ (f ++ [32])) (L.length + f.length) = fld L L.length := by
      rw [fld_run _ _ f.length ?_, e1]
      intro i hi1 hi2
      rw [getD_append, if_neg (by omega), getD_append, if_pos (by omega)]
      apply hf
      rw [List.getD_eq_getElem?_getD, List.getElem?_eq_getElem (by omega)]
      exact List.getElem_mem _
    have e3 : (L ++ (f ++ [32])).length = L.length + f.length + 1 := by simp; omega
    have e4 : (L ++ (f ++ [32])).getD (L.length + f.length) 0 = 32 := by
      rw [getD_append, if_neg (by omega), getD_append, if_neg (by omega)]
      have : L.length + f.length - L.length - f.length = 0 := by omega
      rw [this]; rfl
    have e5 : fld (L ++ (f ++ [32])) (L ++ (f ++ [32])).length = (L.length + f.length + 1, (fld L L.length).2 ++ [(L.length, L.length + f.length)]) := by
      rw [e3, fld_space e4, e2, h1, if_pos (by omega)]
    rw [e5, e3]
    refine ⟨rfl, ?_, ?_⟩
    · rw [List.map_append]
      congr 1
      · rw [← h2]
        apply List.map_congr_left
        intro p hp
        exact piece_append (h3 p hp)
      · simp [piece_end]
    · intro p hp
      rcases List.mem_append.1 hp with hp | hp
      · have := h3 p hp; omega
      · simp at hp; rw [hp]; show L.length + f.length ≤ _; omega
theorem flds_joined (F : List (List UInt8)) (h : Fields F) : (flds (joined F) (joined F).length).map (piece (joined F)) = F := by
  obtain ⟨h1, h2, -⟩ := fld_joined F h
  unfold flds
  rw [h1, if_neg (Nat.lt_irrefl _)]
  exact h2
/-- What is closed and what is open when k bytes have been read. -/
theorem fld_fields (l : List UInt8) (k : Nat) (hk : k ≤ l.length) : (∀ p ∈ (fld l k).2, p.1 < p.2 ∧ p.2 ≤ k ∧ ∀ i, p.1 ≤ i → i < p.2 → l.getD i 0 ≠ 32) ∧ ∀ i, (fld l k).1 ≤ i → i < k → l.getD i 0 ≠ 32 := by
  induction k with
  | zero => exact ⟨fun p hp => (nomatch hp), fun i h1 h2 => absurd h2 (Nat.not_lt_zero _)⟩
  | succ k ih =>
    obtain ⟨h1, h2⟩ := ih (by omega)
    by_cases e : l.getD k 0 = 32
    · rw [fld_space e]
      refine ⟨fun p hp => ?_, fun i a b => absurd b (by show ¬ i < k + 1; have a' : k + 1 ≤ i := a; omega)⟩
      simp only at hp
      split at hp
      · rename_i hlt
        rcases List.mem_append.1 hp with hp | hp
        · obtain ⟨a, b, c⟩ := h1 p hp; exact ⟨a, by omega, c⟩
        · simp at hp; rw [hp]; exact ⟨hlt, by show k ≤ k + 1; omega, h2⟩
      · obtain ⟨a, b, c⟩ := h1 p hp; exact ⟨a, by omega, c⟩
    · rw [fld_other e]
      refine ⟨fun p hp => ?_, fun i a b => ?_⟩
      · obtain ⟨a, b, c⟩ := h1 p hp; exact ⟨a, by omega, c⟩
      · by_cases hi : i = k
        · rw [hi]; exact e
        · exact h2 i a (by omega)
theorem flds_fields (l : List UInt8) : ∀ p ∈ flds l l.length, p.1 < p.2 ∧ p.2 ≤ l.length ∧ ∀ i, p.1 ≤ i → i < p.2 → l.getD i 0 ≠ 32 := by
  obtain ⟨h1, h2⟩ := fld_fields l l.length (Nat.le_refl _)
  intro p hp
  unfold flds at hp
  split at hp
  · rename_i hlt
    rcases List.mem_append.1 hp with hp | hp
    · exact h1 p hp
    · simp at hp; rw [hp]; exact ⟨hlt, Nat.le_refl _, h2⟩
  · exact h1 p hp
theorem piece_mem {l : List UInt8} {p : Nat × Nat} {c : UInt8} (hp : p.2 ≤ l.length) (hc : c ∈ piece l p) : ∃ i, p.1 ≤ i ∧ i < p.2 ∧ l.getD i 0 = c := by
  unfold piece at hc
  obtain ⟨j, hj, rfl⟩ := List.getElem_of_mem hc
  have hj' := hj
  rw [List.length_take, List.length_drop] at hj'
  refine ⟨p.1 + j, by omega, by omega, ?_⟩
  rw [List.getD_eq_getElem?_getD, List.getElem?_eq_getElem (by omega)]
  simp
theorem piece_len {l : List UInt8} {p : Nat × Nat} (hp : p.2 ≤ l.length) : (piece l p).length = p.2 - p.1 := by
  unfold piece
  rw [List.length_take, List.length_drop]; omega
theorem extract_piece (s : ByteArray) (p : Nat × Nat) : (s.extract p.1 p.2).data.toList = piece s.data.toList p := by
  unfold piece
  simp [List.extract_eq_take_drop]
/-- The fields of a line. -/
def fieldsOf (s : ByteArray) : List (List UInt8) := (flds s.data.toList s.size).map (piece s.data.toList)
theorem fieldsOf_fields (s : ByteArray) : Fields (fieldsOf s) := by
  intro f hf
  obtain ⟨p, hp, rfl⟩ := List.mem_map.1 hf
  obtain ⟨h1, h2, h3⟩ := flds_fields s.data.toList p hp
  refine ⟨?_, ?_⟩
  · intro e
    have := piece_len (l := s.data.toList) h2
    rw [e] at this
    simp at this
    omega
  · intro c hc
    obtain ⟨i, a, b, rfl⟩ := piece_mem h2 hc
    exact h3 i a b
theorem joined_okB {F : List (List UInt8)} {P : UInt8 → Prop} (h32 : P 32) (h : ∀ f ∈ F, ∀ c ∈ f, P c) : ∀ c ∈ joined F, P c := by
  intro c hc
  unfold joined at hc
  obtain ⟨f, hf, hc⟩ := List.mem_flatMap.1 hc
  rcases List.mem_append.1 hc with hc | hc
  · exact h f hf c hc
  · simp at hc; rw [hc]; exact h32
/-- The fields joined by spaces: read again just if they are not too long, and then as they were. -/
theorem again (s T : ByteArray) (hg : fgood s) (hT : T.data.toList = joined (fieldsOf s)) :
    (fgood T ↔ T.size ≤ 600) ∧ (flds T.data.toList T.size).length = (flds s.data.toList s.size).length ∧ strsOf T (flds T.data.toList T.size) = strsOf s (flds s.data.toList s.size) := by
  obtain ⟨g1, g2, g3⟩ := hg
  have hTs : T.size = (joined (fieldsOf s)).length := by rw [← hT]; rfl
  have hj := flds_joined (fieldsOf s) (fieldsOf_fields s)
  have hlen : (flds T.data.toList T.size).length = (flds s.data.toList s.size).length := by
    have := congrArg List.length hj
    rw [List.length_map] at this
    rw [hT, hTs, this]
    unfold fieldsOf
    rw [List.length_map]
  refine ⟨⟨fun h => h.1, fun h => ⟨h, ?_, by omega⟩⟩, hlen, ?_⟩
  · intro i hi
    have hmem : T.data.toList.getD i 0 ∈ joined (fieldsOf s) := by
      rw [← hT, List.getD_eq_getElem?_getD, List.getElem?_eq_getElem (by simpa using hi)]
      exact List.getElem_mem _
    refine joined_okB (P := fun c => 32 ≤ c.toNat ∧ c.toNat ≤ 126) (by decide) ?_ _ hmem
    intro f hf c hc
    obtain ⟨p, hp, rfl⟩ := List.mem_map.1 hf
    obtain ⟨h1, h2, -⟩ := flds_fields s.data.toList p hp
    obtain ⟨i, a, b, rfl⟩ := piece_mem h2 hc
    exact g2 i (by have : s.data.toList.length = s.size := rfl; omega)
  · have key : ∀ (u : ByteArray) (gs : List (Nat × Nat)), strsOf u gs = (gs.map (piece u.data.toList)).map fun l => Value.string ⟨l.toArray⟩ := by
      intro u gs
      unfold strsOf
      rw [List.map_map]
      apply List.map_congr_left
      intro p _
      show Value.string _ = Value.string _
      congr 1
      rw [← extract_piece]
    rw [key, key]
    congr 1
    rw [hT, hTs, hj]
    rfl

end Go.Proofs.YtopkdkehkdhmgabDoor
