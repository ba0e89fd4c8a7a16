/- What the program's and the model's ScreenOk return, and the laws' own functions over screens. -/
import Derived.Test.YtkdlhapbbnggoabIn
import Derived.Test.YtkdlhapbbnggoabScrPlain
import Derived.Test.YtkdlhapbbnggoabLater
namespace Go.Proofs.Ytkdlhapbbnggoab
open Go.RowKit
set_option linter.unusedVariables false

set_option maxHeartbeats 1000000 in
theorem iScreenOk_any (L S V : Int) (w : World) :
    Calls Try.prog 56 #[.agg #[.int .i64 L, .int .i64 S, .int .i64 V]] w fun e w' => e = .returned (.bool (scB L S V)) ∧ Below w.heap.size w w' := by
  rcases Bool.eq_false_or_eq_true (inB 1 4 L) with b1 | b1
  rotate_left
  · have HE : Hid (scB L S V = false) := scB_no (fun h => inB_no.1 b1 h.1)
    go_enter Try.func56, Try.ntmps56
    go_wp2_with (go_at_call 73; with_reducible refine (within_at b1 _).mono ?_; rintro e w' ⟨rfl, rfl⟩)
    go_ret
    exact ⟨(congrArg (fun b => Ending.returned (Value.bool b)) HE.out).symm, (Below.refl _ _).alloc (Nat.le_refl _) _⟩
  rcases Bool.eq_false_or_eq_true (inB 0 100000 S) with b2 | b2
  rotate_left
  · have HE : Hid (scB L S V = false) := scB_no (fun h => inB_no.1 b2 h.2.1)
    go_enter Try.func56, Try.ntmps56
    go_wp2_with (first | (go_at_call 73; with_reducible refine (within_at b1 _).mono ?_; rintro e w' ⟨rfl, rfl⟩) | (go_at_call 73; with_reducible refine (within_at b2 _).mono ?_; rintro e w' ⟨rfl, rfl⟩))
    go_ret
    exact ⟨(congrArg (fun b => Ending.returned (Value.bool b)) HE.out).symm, (Below.refl _ _).alloc (Nat.le_refl _) _⟩
  have h1 := inB_iff.1 b1
  have h2 := inB_iff.1 b2
  obtain ⟨t, ht⟩ : ∃ t, t = scB L S V := ⟨_, rfl⟩
  rw [← ht]
  by_cases c0 : V = 0
  · have HE : Hid (t = true) := ht.trans (scB_yes ⟨h1, h2, .inl c0⟩)
    subst c0
    clear ht h1 h2
    go_enter Try.func56, Try.ntmps56
    go_wp2_with (first | (go_at_call 73; with_reducible refine (within_at b1 _).mono ?_; rintro e w' ⟨rfl, rfl⟩) | (go_at_call 73; with_reducible refine (within_at b2 _).mono ?_; rintro e w' ⟨rfl, rfl⟩))
    go_ret
    exact ⟨(congrArg (fun b => Ending.returned (Value.bool b)) HE.out).symm, (Below.refl _ _).alloc (Nat.le_refl _) _⟩
  by_cases c1 : V = 1
  · have HE : Hid (t = true) := ht.trans (scB_yes ⟨h1, h2, .inr (.inl c1)⟩)
    subst c1
    clear ht h1 h2 c0
    go_enter Try.func56, Try.ntmps56
    go_wp2_with (first | (go_at_call 73; with_reducible refine (within_at b1 _).mono ?_; rintro e w' ⟨rfl, rfl⟩) | (go_at_call 73; with_reducible refine (within_at b2 _).mono ?_; rintro e w' ⟨rfl, rfl⟩))
    go_ret
    exact ⟨(congrArg (fun b => Ending.returned (Value.bool b)) HE.out).symm, (Below.refl _ _).alloc (Nat.le_refl _) _⟩
  by_cases c2 : V = 2
  · have HE : Hid (t = (L == 4)) := by
      refine ht.trans ?_
      by_cases c4 : L = 4
      · subst c4; exact scB_yes ⟨h1, h2, .inr (.inr ⟨c2, rfl⟩)⟩
      · rw [show (L == 4) = false by simpa using c4]; exact scB_no (fun h => by rcases h.2.2 with h | h | h; exact c0 h; exact c1 h; exact c4 h.2)
    subst c2
    clear ht h1 h2 c0 c1
    go_enter Try.func56, Try.ntmps56
    go_wp2_with (first | (go_at_call 73; with_reducible refine (within_at b1 _).mono ?_; rintro e w' ⟨rfl, rfl⟩) | (go_at_call 73; with_reducible refine (within_at b2 _).mono ?_; rintro e w' ⟨rfl, rfl⟩))
    go_ret
    exact ⟨(congrArg (fun b => Ending.returned (Value.bool b)) HE.out).symm, (Below.refl _ _).alloc (Nat.le_refl _) _⟩
  · have HE : Hid (t = false) := ht.trans (scB_no (fun h => by rcases h.2.2 with h | h | h; exact c0 h; exact c1 h; exact c2 h.1))
    have d0 : (V == 0) = false := by simpa using c0
    have d1 : (V == 1) = false := by simpa using c1
    have d2 : (V == 2) = false := by simpa using c2
    clear ht h1 h2
    go_enter Try.func56, Try.ntmps56
    go_wp2_with (first | (go_at_call 73; with_reducible refine (within_at b1 _).mono ?_; rintro e w' ⟨rfl, rfl⟩) | (go_at_call 73; with_reducible refine (within_at b2 _).mono ?_; rintro e w' ⟨rfl, rfl⟩))
    go_ret
    exact ⟨(congrArg (fun b => Ending.returned (Value.bool b)) HE.out).symm, (Below.refl _ _).alloc (Nat.le_refl _) _⟩

set_option maxHeartbeats 1000000 in
theorem sScreenOk_any (L S V : Int) (w : World) :
    Calls Try.prog 98 #[.agg #[.int .i64 L, .int .i64 S, .int .i64 V]] w fun e w' => e = .returned (.bool (scB L S V)) ∧ Below w.heap.size w w' := by
  rcases Bool.eq_false_or_eq_true (inB 1 4 L) with b1 | b1
  rotate_left
  · have HE : Hid (scB L S V = false) := scB_no (fun h => inB_no.1 b1 h.1)
    go_enter Try.func98, Try.ntmps98
    go_wp2_with (go_at_call 76; with_reducible refine (specIn_at b1 _).mono ?_; rintro e w' ⟨rfl, rfl⟩)
    go_ret
    exact ⟨(congrArg (fun b => Ending.returned (Value.bool b)) HE.out).symm, (Below.refl _ _).alloc (Nat.le_refl _) _⟩
  rcases Bool.eq_false_or_eq_true (inB 0 100000 S) with b2 | b2
  rotate_left
  · have HE : Hid (scB L S V = false) := scB_no (fun h => inB_no.1 b2 h.2.1)
    go_enter Try.func98, Try.ntmps98
    go_wp2_with (first | (go_at_call 76; with_reducible refine (specIn_at b1 _).mono ?_; rintro e w' ⟨rfl, rfl⟩) | (go_at_call 76; with_reducible refine (specIn_at b2 _).mono ?_; rintro e w' ⟨rfl, rfl⟩))
    go_ret
    exact ⟨(congrArg (fun b => Ending.returned (Value.bool b)) HE.out).symm, (Below.refl _ _).alloc (Nat.le_refl _) _⟩
  have h1 := inB_iff.1 b1
  have h2 := inB_iff.1 b2
  obtain ⟨t, ht⟩ : ∃ t, t = scB L S V := ⟨_, rfl⟩
  rw [← ht]
  by_cases c0 : V = 0
  · have HE : Hid (t = true) := ht.trans (scB_yes ⟨h1, h2, .inl c0⟩)
    subst c0
    clear ht h1 h2
    go_enter Try.func98, Try.ntmps98
    go_wp2_with (first | (go_at_call 76; with_reducible refine (specIn_at b1 _).mono ?_; rintro e w' ⟨rfl, rfl⟩) | (go_at_call 76; with_reducible refine (specIn_at b2 _).mono ?_; rintro e w' ⟨rfl, rfl⟩))
    go_ret
    exact ⟨(congrArg (fun b => Ending.returned (Value.bool b)) HE.out).symm, (Below.refl _ _).alloc (Nat.le_refl _) _⟩
  by_cases c1 : V = 1
  · have HE : Hid (t = true) := ht.trans (scB_yes ⟨h1, h2, .inr (.inl c1)⟩)
    subst c1
    clear ht h1 h2 c0
    go_enter Try.func98, Try.ntmps98
    go_wp2_with (first | (go_at_call 76; with_reducible refine (specIn_at b1 _).mono ?_; rintro e w' ⟨rfl, rfl⟩) | (go_at_call 76; with_reducible refine (specIn_at b2 _).mono ?_; rintro e w' ⟨rfl, rfl⟩))
    go_ret
    exact ⟨(congrArg (fun b => Ending.returned (Value.bool b)) HE.out).symm, (Below.refl _ _).alloc (Nat.le_refl _) _⟩
  have d0 : (V == 0) = false := by simpa using c0
  have d1 : (V == 1) = false := by simpa using c1
  by_cases c2 : V = 2
  · by_cases c4 : L = 4
    · have HE : Hid (t = true) := ht.trans (scB_yes ⟨h1, h2, .inr (.inr ⟨c2, c4⟩)⟩)
      subst c2
      subst c4
      clear ht h1 h2 c0 c1 d0 d1
      go_enter Try.func98, Try.ntmps98
      go_wp2_with (first | (go_at_call 76; with_reducible refine (specIn_at b1 _).mono ?_; rintro e w' ⟨rfl, rfl⟩) | (go_at_call 76; with_reducible refine (specIn_at b2 _).mono ?_; rintro e w' ⟨rfl, rfl⟩))
      go_ret
      exact ⟨(congrArg (fun b => Ending.returned (Value.bool b)) HE.out).symm, (Below.refl _ _).alloc (Nat.le_refl _) _⟩
    · have HE : Hid (t = false) := ht.trans (scB_no (fun h => by rcases h.2.2 with h | h | h; exact c0 h; exact c1 h; exact c4 h.2))
      have d4 : (L == 4) = false := by simpa using c4
      subst c2
      clear ht h1 h2 c0 c1 d0 d1
      go_enter Try.func98, Try.ntmps98
      go_wp2_with (first | (go_at_call 76; with_reducible refine (specIn_at b1 _).mono ?_; rintro e w' ⟨rfl, rfl⟩) | (go_at_call 76; with_reducible refine (specIn_at b2 _).mono ?_; rintro e w' ⟨rfl, rfl⟩))
      go_ret
      exact ⟨(congrArg (fun b => Ending.returned (Value.bool b)) HE.out).symm, (Below.refl _ _).alloc (Nat.le_refl _) _⟩
  · have HE : Hid (t = false) := ht.trans (scB_no (fun h => by rcases h.2.2 with h | h | h; exact c0 h; exact c1 h; exact c2 h.1))
    have d2 : (V == 2) = false := by simpa using c2
    clear ht h1 h2
    go_enter Try.func98, Try.ntmps98
    go_wp2_with (first | (go_at_call 76; with_reducible refine (specIn_at b1 _).mono ?_; rintro e w' ⟨rfl, rfl⟩) | (go_at_call 76; with_reducible refine (specIn_at b2 _).mono ?_; rintro e w' ⟨rfl, rfl⟩))
    go_ret
    exact ⟨(congrArg (fun b => Ending.returned (Value.bool b)) HE.out).symm, (Below.refl _ _).alloc (Nat.le_refl _) _⟩

theorem iScreenOk_at {L S V : Int} {t : Bool} (h : scB L S V = t) (w : World) :
    Calls Try.prog 56 #[.agg #[.int .i64 L, .int .i64 S, .int .i64 V]] w fun e w' => e = .returned (.bool t) ∧ Below w.heap.size w w' := by
  rw [← h]; exact iScreenOk_any L S V w
theorem sScreenOk_at {L S V : Int} {t : Bool} (h : scB L S V = t) (w : World) :
    Calls Try.prog 98 #[.agg #[.int .i64 L, .int .i64 S, .int .i64 V]] w fun e w' => e = .returned (.bool t) ∧ Below w.heap.size w w' := by
  rw [← h]; exact sScreenOk_any L S V w

end Go.Proofs.Ytkdlhapbbnggoab
