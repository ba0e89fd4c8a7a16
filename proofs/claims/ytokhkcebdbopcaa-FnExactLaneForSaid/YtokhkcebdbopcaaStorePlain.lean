/- What a valid store is, in plain words: lanes are nn (their lengths) and xx (bag and time of each element, two numbers). -/
import Derived.WalkKit
namespace Go.Proofs.Ytokhkcebdbopcaa

/-- The bags of the first k elements of a lane. -/
def lrow (x : Nat → Int) (k : Nat) : List Int := (List.range k).map (fun j => x (j * 2))
/-- The bags of the first n lanes. -/
def bagL (nn : Nat → Nat) (xx : Nat → Nat → Int) : Nat → List Int
  | 0 => []
  | n + 1 => bagL nn xx n ++ lrow (xx n) (nn n)
def tmOk (x : Nat → Int) (k : Nat) : Prop := ∀ j, j < k → 0 ≤ x (j * 2 + 1) ∧ x (j * 2 + 1) ≤ 100000
instance (x : Nat → Int) (k : Nat) : Decidable (tmOk x k) := by unfold tmOk; exact inferInstance
def bgL (l : List Int) : Prop := (∀ x, x ∈ l → 1 ≤ x) ∧ l.Nodup
instance (l : List Int) : Decidable (bgL l) := by unfold bgL; exact inferInstance
/-- The store is valid. -/
def stO (D : Int) (n : Nat) (nn : Nat → Nat) (xx : Nat → Nat → Int) : Prop :=
  (1 ≤ D ∧ D ≤ 5) ∧ (1 ≤ n ∧ n ≤ 4) ∧ (∀ i, i < n → (nn i : Int) ≤ D ∧ tmOk (xx i) (nn i)) ∧ bgL (bagL nn xx n)
instance (D : Int) (n : Nat) (nn : Nat → Nat) (xx : Nat → Nat → Int) : Decidable (stO D n nn xx) := by unfold stO; exact inferInstance

theorem lrow_zero (x : Nat → Int) : lrow x 0 = [] := rfl
theorem lrow_succ (x : Nat → Int) (k : Nat) : lrow x (k + 1) = lrow x k ++ [x (k * 2)] := by unfold lrow; rw [List.range_succ, List.map_append]; rfl
theorem lrow_len (x : Nat → Int) (k : Nat) : (lrow x k).length = k := by simp [lrow]
theorem bagL_pre {nn : Nat → Nat} {xx : Nat → Nat → Int} {i n : Nat} (h : i ≤ n) : bagL nn xx i <+: bagL nn xx n := by
  induction n with
  | zero => obtain rfl : i = 0 := by omega
            exact List.prefix_rfl
  | succ n ih =>
    by_cases e : i = n + 1
    · subst e; exact List.prefix_rfl
    · exact (ih (by omega)).trans (List.prefix_append _ _)
theorem lrow_pre {x : Nat → Int} {k m : Nat} (h : k ≤ m) : lrow x k <+: lrow x m := by
  induction m with
  | zero => obtain rfl : k = 0 := by omega
            exact List.prefix_rfl
  | succ m ih =>
    by_cases e : k = m + 1
    · subst e; exact List.prefix_rfl
    · rw [lrow_succ]; exact (ih (by omega)).trans (List.prefix_append _ _)
theorem part_pre {nn : Nat → Nat} {xx : Nat → Nat → Int} {i n k : Nat} (h : i < n) (hk : k ≤ nn i) : bagL nn xx i ++ lrow (xx i) k <+: bagL nn xx n :=
  ((List.prefix_append_right_inj _).2 (lrow_pre hk)).trans (bagL_pre (show i + 1 ≤ n from h))
theorem bgL_pre {a b : List Int} (h : a <+: b) (hb : bgL b) : bgL a := by
  obtain ⟨t, rfl⟩ := h
  refine ⟨fun x hx => hb.1 x (List.mem_append_left _ hx), (List.nodup_append.1 hb.2).1⟩
theorem bgL_one {a : List Int} {x : Int} : bgL (a ++ [x]) ↔ bgL a ∧ 1 ≤ x ∧ x ∉ a := by
  constructor
  · intro h
    refine ⟨bgL_pre (List.prefix_append _ _) h, h.1 x (by simp), ?_⟩
    have := List.nodup_append.1 h.2
    intro hx
    exact this.2.2 x hx x (by simp) rfl
  · rintro ⟨h1, h2, h3⟩
    refine ⟨fun y hy => ?_, ?_⟩
    · rcases List.mem_append.1 hy with h | h
      · exact h1.1 y h
      · obtain rfl : y = x := by simpa using h
        exact h2
    · refine List.nodup_append.2 ⟨h1.2, by simp, ?_⟩
      intro y hy z hz e
      obtain rfl : z = x := by simpa using hz
      subst e
      exact h3 hy
theorem bgL_nil : bgL [] := ⟨fun _ h => absurd h List.not_mem_nil, List.nodup_nil⟩

end Go.Proofs.Ytokhkcebdbopcaa
