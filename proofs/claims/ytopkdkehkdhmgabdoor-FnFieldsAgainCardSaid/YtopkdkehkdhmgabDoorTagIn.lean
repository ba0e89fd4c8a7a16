/- What TagOk, TagNumber and TagCheck return, the program's and the model's, for a tag of any three numbers. -/
import Derived.WalkKit
import Derived.ProofKit
import Derived.Below
import Derived.Test.YtopkdkehkdhmgabDoorChecked
import Derived.Test.YtopkdkehkdhmgabDoorSmall
namespace Go.Proofs.YtopkdkehkdhmgabDoor
open Go.RowKit

def inB (lo hi x : Int) : Bool := decide (lo ≤ x) && decide (x ≤ hi)
theorem inB_yes {lo hi x : Int} (h : lo ≤ x) (k : x ≤ hi) : inB lo hi x = true := by simp [inB, h, k]
theorem inB_low {lo hi x : Int} (h : x < lo) : inB lo hi x = false := by simp [inB]; omega
theorem inB_high {lo hi x : Int} (h : hi < x) : inB lo hi x = false := by simp [inB]; omega
def tokB (a b c : Int) : Bool := inB 0 9 a && inB 1 999 b && inB 0 999999 c
def tnum (a b c : Int) : Int := if tokB a b c = true then (a * 1000 + b) * 1000000 + c else -1
def tchk (a b c : Int) : Int := if tokB a b c = true then ((a * 1000 + b) * 1000000 + c) % 7 else -1
theorem tokB_iff {a b c : Int} : tokB a b c = true ↔ (0 ≤ a ∧ a ≤ 9) ∧ (1 ≤ b ∧ b ≤ 999) ∧ 0 ≤ c ∧ c ≤ 999999 := by simp [tokB, inB, and_assoc]
theorem tokB_parts {a b c : Int} (h : tokB a b c = false) : inB 0 9 a = false ∨ (inB 0 9 a = true ∧ inB 1 999 b = false) ∨ (inB 0 9 a = true ∧ inB 1 999 b = true ∧ inB 0 999999 c = false) := by
  unfold tokB at h
  cases h1 : inB 0 9 a <;> cases h2 : inB 1 999 b <;> cases h3 : inB 0 999999 c <;> simp_all

theorem specIn_any (lo hi x : Int) (w : World) :
    Calls Tryd.prog 63 #[.int .i64 x, .int .i64 lo, .int .i64 hi] w fun e w' => e = .returned (.bool (inB lo hi x)) ∧ w = w' := by
  by_cases h : lo ≤ x
  · by_cases k : x ≤ hi
    · rw [inB_yes h k]
      go_enter Tryd.func63, Tryd.ntmps63
      go_wp2
      go_ret
      exact ⟨rfl, rfl⟩
    · rw [inB_high (by omega)]
      go_enter Tryd.func63, Tryd.ntmps63
      go_wp2
      go_ret
      exact ⟨rfl, rfl⟩
  · rw [inB_low (by omega)]
    go_enter Tryd.func63, Tryd.ntmps63
    go_wp2
    go_ret
    exact ⟨rfl, rfl⟩

theorem within_any (lo hi x : Int) (w : World) :
    Calls Tryd.prog 38 #[.int .i64 x, .int .i64 lo, .int .i64 hi] w fun e w' => e = .returned (.bool (inB lo hi x)) ∧ w = w' := by
  by_cases h : lo ≤ x
  · by_cases k : x ≤ hi
    · rw [inB_yes h k]
      go_enter Tryd.func38, Tryd.ntmps38
      go_wp2
      go_ret
      exact ⟨rfl, rfl⟩
    · rw [inB_high (by omega)]
      go_enter Tryd.func38, Tryd.ntmps38
      go_wp2
      go_ret
      exact ⟨rfl, rfl⟩
  · rw [inB_low (by omega)]
    go_enter Tryd.func38, Tryd.ntmps38
    go_wp2
    go_ret
    exact ⟨rfl, rfl⟩

theorem implOk_any (a b c : Int) (w : World) :
    Calls Tryd.prog 22 #[.agg #[.int .i64 a, .int .i64 b, .int .i64 c]] w fun e w' => e = .returned (.bool (tokB a b c)) ∧ Below w.heap.size w w' := by
  have e : tokB a b c = (inB 0 9 a && inB 1 999 b && inB 0 999999 c) := rfl
  rw [e]
  clear e
  cases h1 : inB 0 9 a <;> cases h2 : inB 1 999 b <;> cases h3 : inB 0 999999 c
  all_goals
    go_enter Tryd.func22, Tryd.ntmps22
    go_wp2_with (go_at_call 38; refine (within_any _ _ _ _).mono ?_; rintro e w' ⟨rfl, rfl⟩)
    go_ret
    exact ⟨rfl, by repeat (first | exact Below.refl _ _ | refine Below.alloc ?_ (by simp <;> omega) _)⟩

theorem specOk_any (a b c : Int) (w : World) :
    Calls Tryd.prog 44 #[.agg #[.int .i64 a, .int .i64 b, .int .i64 c]] w fun e w' => e = .returned (.bool (tokB a b c)) ∧ Below w.heap.size w w' := by
  have e : tokB a b c = (inB 0 9 a && inB 1 999 b && inB 0 999999 c) := rfl
  rw [e]
  clear e
  cases h1 : inB 0 9 a <;> cases h2 : inB 1 999 b <;> cases h3 : inB 0 999999 c
  all_goals
    go_enter Tryd.func44, Tryd.ntmps44
    go_wp2_with (go_at_call 63; refine (specIn_any _ _ _ _).mono ?_; rintro e w' ⟨rfl, rfl⟩)
    go_ret
    exact ⟨rfl, by repeat (first | exact Below.refl _ _ | refine Below.alloc ?_ (by simp <;> omega) _)⟩

theorem implNum_any (a b c : Int) (w : World) :
    Calls Tryd.prog 25 #[.agg #[.int .i64 a, .int .i64 b, .int .i64 c]] w fun e w' => e = .returned (.int .i64 (tnum a b c)) ∧ Below w.heap.size w w' := by
  cases h : tokB a b c
  · have e : tnum a b c = -1 := by unfold tnum; rw [h]; rfl
    rw [e]
    clear e
    have H := Lib.hid h
    clear h
    go_enter Tryd.func25, Tryd.ntmps25
    go_wp2_with (go_at_call 22; refine (implOk_any _ _ _ _).mono ?_; rw [H.out]; rintro e w1 ⟨rfl, hb⟩; obtain ⟨hc, hf⟩ := bcell hb)
    go_ret
    exact ⟨rfl, ((Below.refl _ _).alloc (Nat.le_refl _) _).trans (hb.mono (by simp))⟩
  · have e : tnum a b c = (a * 1000 + b) * 1000000 + c := by unfold tnum; rw [if_pos h]
    rw [e]
    clear e
    obtain ⟨⟨h1, h2⟩, ⟨h3, h4⟩, h5, h6⟩ := tokB_iff.1 h
    have H := Lib.hid h
    clear h
    go_enter Tryd.func25, Tryd.ntmps25
    go_wp2_with (go_at_call 22; refine (implOk_any _ _ _ _).mono ?_; rw [H.out]; rintro e w1 ⟨rfl, hb⟩; obtain ⟨hc, hf⟩ := bcell hb)
    go_ret
    exact ⟨rfl, ((Below.refl _ _).alloc (Nat.le_refl _) _).trans (hb.mono (by simp))⟩

theorem specNum_any (a b c : Int) (w : World) :
    Calls Tryd.prog 24 #[.agg #[.int .i64 a, .int .i64 b, .int .i64 c]] w fun e w' => e = .returned (.int .i64 (tnum a b c)) ∧ Below w.heap.size w w' := by
  cases h : tokB a b c
  · have e : tnum a b c = -1 := by unfold tnum; rw [h]; rfl
    rw [e]
    clear e
    have H := Lib.hid h
    clear h
    go_enter Tryd.func24, Tryd.ntmps24
    go_wp2_with (go_at_call 44; refine (specOk_any _ _ _ _).mono ?_; rw [H.out]; rintro e w1 ⟨rfl, hb⟩; obtain ⟨hc, hf⟩ := bcell hb)
    go_ret
    exact ⟨rfl, ((Below.refl _ _).alloc (Nat.le_refl _) _).trans (hb.mono (by simp))⟩
  · have e : tnum a b c = (a * 1000 + b) * 1000000 + c := by unfold tnum; rw [if_pos h]
    rw [e]
    clear e
    obtain ⟨⟨h1, h2⟩, ⟨h3, h4⟩, h5, h6⟩ := tokB_iff.1 h
    have H := Lib.hid h
    clear h
    go_enter Tryd.func24, Tryd.ntmps24
    go_wp2_with (go_at_call 44; refine (specOk_any _ _ _ _).mono ?_; rw [H.out]; rintro e w1 ⟨rfl, hb⟩; obtain ⟨hc, hf⟩ := bcell hb)
    go_ret
    exact ⟨rfl, ((Below.refl _ _).alloc (Nat.le_refl _) _).trans (hb.mono (by simp))⟩

theorem implChk_any (a b c : Int) (w : World) :
    Calls Tryd.prog 23 #[.agg #[.int .i64 a, .int .i64 b, .int .i64 c]] w fun e w' => e = .returned (.int .i64 (tchk a b c)) ∧ Below w.heap.size w w' := by
  cases h : tokB a b c
  · have e : tchk a b c = -1 := by unfold tchk; rw [h]; rfl
    rw [e]
    clear e
    have H := Lib.hid h
    clear h
    go_enter Tryd.func23, Tryd.ntmps23
    go_wp2_with (go_at_call 22; refine (implOk_any _ _ _ _).mono ?_; rw [H.out]; rintro e w1 ⟨rfl, hb⟩; obtain ⟨hc, hf⟩ := bcell hb)
    go_ret
    exact ⟨rfl, ((Below.refl _ _).alloc (Nat.le_refl _) _).trans (hb.mono (by simp))⟩
  · have e : tchk a b c = tnum a b c % 7 := by unfold tchk tnum; rw [if_pos h, if_pos h]
    rw [e]
    clear e
    have hn : 0 ≤ tnum a b c ∧ tnum a b c ≤ 9999999999 := by
      obtain ⟨⟨h1, h2⟩, ⟨h3, h4⟩, h5, h6⟩ := tokB_iff.1 h
      unfold tnum; rw [if_pos h]; omega
    obtain ⟨n0, n1⟩ := hn
    have H := Lib.hid h
    clear h
    go_enter Tryd.func23, Tryd.ntmps23
    go_wp2_with (first | (go_at_call 22; refine (implOk_any _ _ _ _).mono ?_; rw [H.out]; rintro e w1 ⟨rfl, hb⟩; obtain ⟨hc, hf⟩ := bcell hb) | (go_at_call 25; refine (implNum_any _ _ _ _).mono ?_; rintro e w2 ⟨rfl, hb2⟩))
    go_ret
    exact ⟨rfl, (((Below.refl _ _).alloc (Nat.le_refl _) _).trans (hb.mono (by simp))).trans (hb2.mono (by have := hb.size; simp at this; omega))⟩

theorem specChk_any (a b c : Int) (w : World) :
    Calls Tryd.prog 46 #[.agg #[.int .i64 a, .int .i64 b, .int .i64 c]] w fun e w' => e = .returned (.int .i64 (tchk a b c)) ∧ Below w.heap.size w w' := by
  cases h : tokB a b c
  · have e : tchk a b c = -1 := by unfold tchk; rw [h]; rfl
    rw [e]
    clear e
    have H := Lib.hid h
    clear h
    go_enter Tryd.func46, Tryd.ntmps46
    go_wp2_with (go_at_call 44; refine (specOk_any _ _ _ _).mono ?_; rw [H.out]; rintro e w1 ⟨rfl, hb⟩; obtain ⟨hc, hf⟩ := bcell hb)
    go_ret
    exact ⟨rfl, ((Below.refl _ _).alloc (Nat.le_refl _) _).trans (hb.mono (by simp))⟩
  · have e : tchk a b c = tnum a b c % 7 := by unfold tchk tnum; rw [if_pos h, if_pos h]
    rw [e]
    clear e
    have hn : 0 ≤ tnum a b c ∧ tnum a b c ≤ 9999999999 := by
      obtain ⟨⟨h1, h2⟩, ⟨h3, h4⟩, h5, h6⟩ := tokB_iff.1 h
      unfold tnum; rw [if_pos h]; omega
    obtain ⟨n0, n1⟩ := hn
    have H := Lib.hid h
    clear h
    go_enter Tryd.func46, Tryd.ntmps46
    go_wp2_with (first | (go_at_call 44; refine (specOk_any _ _ _ _).mono ?_; rw [H.out]; rintro e w1 ⟨rfl, hb⟩; obtain ⟨hc, hf⟩ := bcell hb) | (go_at_call 24; refine (specNum_any _ _ _ _).mono ?_; rintro e w2 ⟨rfl, hb2⟩))
    go_ret
    exact ⟨rfl, (((Below.refl _ _).alloc (Nat.le_refl _) _).trans (hb.mono (by simp))).trans (hb2.mono (by have := hb.size; simp at this; omega))⟩

end Go.Proofs.YtopkdkehkdhmgabDoor
