/- The windows of a belt's items in plain words. -/
import Derived.Test.YtlklggkkkbamhaaBeltPlain
import Derived.Test.YtlklggkkkbamhaaIn
namespace Go.Proofs.Ytlklggkkkbamhaa
open Go.RowKit
set_option linter.unusedVariables false

def clI (n : Int) : Int := if n < 0 then 0 else if 100000 < n then 100000 else n
theorem clI_in (n : Int) : 0 ≤ clI n ∧ clI n ≤ 100000 := by unfold clI; split <;> (try split) <;> omega
theorem iClamp_0 (n : Int) (w : World) : Calls Try.prog 45 #[.int .i64 n, .int .i64 0, .int .i64 100000] w fun e w' => e = .returned (.int .i64 (clI n)) ∧ w = w' := by
  have HE : Hid ((n < 0 ∧ clI n = 0) ∨ (0 ≤ n ∧ n ≤ 100000 ∧ clI n = n) ∨ (100000 < n ∧ clI n = 100000)) := by show _ ∨ _; unfold clI; split <;> (try split) <;> omega
  obtain ⟨r, hr⟩ : ∃ r, r = clI n := ⟨_, rfl⟩
  rw [← hr] at HE ⊢
  clear hr
  rcases HE.out with ⟨h1, rfl⟩ | ⟨h1, h2, rfl⟩ | ⟨h1, rfl⟩
  all_goals
    clear HE
    go_enter Try.func45, Try.ntmps45
    go_wp2
    all_goals first
      | (go_ret; exact ⟨rfl, rfl⟩)
      | (exfalso; omega)
      | (have h0 : r = 0 := by omega
         subst h0
         go_ret
         exact ⟨rfl, rfl⟩)
theorem sClamp_0 (n : Int) (w : World) : Calls Try.prog 46 #[.int .i64 n, .int .i64 0, .int .i64 100000] w fun e w' => e = .returned (.int .i64 (clI n)) ∧ w = w' := by
  have HE : Hid ((n < 0 ∧ clI n = 0) ∨ (0 ≤ n ∧ n ≤ 100000 ∧ clI n = n) ∨ (100000 < n ∧ clI n = 100000)) := by show _ ∨ _; unfold clI; split <;> (try split) <;> omega
  obtain ⟨r, hr⟩ : ∃ r, r = clI n := ⟨_, rfl⟩
  rw [← hr] at HE ⊢
  clear hr
  rcases HE.out with ⟨h1, rfl⟩ | ⟨h1, h2, rfl⟩ | ⟨h1, rfl⟩
  all_goals
    clear HE
    go_enter Try.func46, Try.ntmps46
    go_wp2
    all_goals first
      | (go_ret; exact ⟨rfl, rfl⟩)
      | (exfalso; omega)

/-- The window of item i, as three numbers; none if it is not ahead of the place. -/
def wOne (z : Nat → Int) (place now slack : Int) (i : Nat) : List Int :=
  if z (i * 3 + 1) < place then [z (i * 3), clI (now + place - z (i * 3 + 1) - slack), clI (now + place - z (i * 3 + 1) + slack)] else []
def wTo (z : Nat → Int) (place now slack : Int) : Nat → List Int
  | 0 => []
  | k + 1 => wTo z place now slack k ++ wOne z place now slack k
/-- How many items are. -/
def wCo (z : Nat → Int) (place : Int) : Nat → Nat
  | 0 => 0
  | k + 1 => wCo z place k + if z (k * 3 + 1) < place then 1 else 0
theorem wTo_len (z : Nat → Int) (place now slack : Int) : ∀ k, (wTo z place now slack k).length = wCo z place k * 3
  | 0 => rfl
  | k + 1 => by
    show (wTo z place now slack k ++ wOne z place now slack k).length = (wCo z place k + if z (k * 3 + 1) < place then 1 else 0) * 3
    rw [List.length_append, wTo_len z place now slack k]
    unfold wOne
    split <;> simp <;> omega
theorem wCo_le (z : Nat → Int) (place : Int) : ∀ k, wCo z place k ≤ k
  | 0 => Nat.le_refl _
  | k + 1 => by
    have := wCo_le z place k
    show wCo z place k + (if z (k * 3 + 1) < place then 1 else 0) ≤ k + 1
    split <;> omega
open Classical in
noncomputable def winOk (L G : Int) (n : Nat) (z : Nat → Int) (place now slack : Int) : Bool :=
  okB L G n z && inB 1 L place && inB 0 100000 now && inB 0 100000 slack
noncomputable def winB (L G : Int) (n : Nat) (z : Nat → Int) (place now slack : Int) : Bool := winOk L G n z place now slack && decide (wCo z place n ≤ 6)
noncomputable def winN (L G : Int) (n : Nat) (z : Nat → Int) (place now slack : Int) : Nat := if winB L G n z place now slack = true then wCo z place n else 0
def winZ (n : Nat) (z : Nat → Int) (place now slack : Int) : Nat → Int := fun j => (wTo z place now slack n).getD j 0
theorem win_yes {L G : Int} {n : Nat} {z : Nat → Int} {place now slack : Int} (h1 : okB L G n z = true) (h2 : inB 1 L place = true) (h3 : inB 0 100000 now = true) (h4 : inB 0 100000 slack = true) (h5 : wCo z place n ≤ 6) :
    winB L G n z place now slack = true ∧ winN L G n z place now slack = wCo z place n := by
  have : winB L G n z place now slack = true := by simp [winB, winOk, h1, h2, h3, h4, h5]
  exact ⟨this, if_pos this⟩
theorem win_no {L G : Int} {n : Nat} {z : Nat → Int} {place now slack : Int} (h : winB L G n z place now slack = false) : winN L G n z place now slack = 0 := by simp [winN, h]
theorem win_bad {L G : Int} {n : Nat} {z : Nat → Int} {place now slack : Int} (h : okB L G n z = false ∨ inB 1 L place = false ∨ inB 0 100000 now = false ∨ inB 0 100000 slack = false ∨ 6 < wCo z place n) :
    winB L G n z place now slack = false := by
  rcases h with h | h | h | h | h
  · simp [winB, winOk, h]
  · simp [winB, winOk, h]
  · simp [winB, winOk, h]
  · simp [winB, winOk, h]
  · have : ¬ (wCo z place n ≤ 6) := by omega
    simp [winB, this]

end Go.Proofs.Ytlklggkkkbamhaa
