/- Whether a piece may go into a box: what the program's hasRoom and the model's l07Takes return. -/
import Derived.Test.YtnkhjlpeeljelaaBoxMem
namespace Go.Proofs.Ytnkhjlpeeljelaa
open Go.RowKit
set_option linter.unusedVariables false

/-- A box of the class cls and the weight wt with k bags takes a piece of the weight pw and the class pc. -/
def tkB (W C cls wt : Int) (k : Nat) (pw pc : Int) : Bool := decide (cls = pc) && (decide ((k : Int) < C) && decide (wt + pw ≤ W))

set_option maxRecDepth 100000 in
set_option maxHeartbeats 2000000 in
theorem iHasRoom_any (W C cls wt : Int) (pb : Option Addr) (k cb : Nat) (b pw pc : Int) (h1 : -1000000 ≤ wt ∧ wt ≤ 1000000) (h2 : -1000000 ≤ pw ∧ pw ≤ 1000000) (w : World) :
    Calls Try.prog 75 #[.agg #[.int .i64 W, .int .i64 C], .agg #[.int .i64 cls, .int .i64 wt, .slice pb k cb], .agg #[.int .i64 b, .int .i64 pw, .int .i64 pc]] w fun e w' => e = .returned (.bool (tkB W C cls wt k pw pc)) ∧ Below w.heap.size w w' := by
  have hw : IntKind.i64.wrap (wt + pw) = wt + pw := IntWalk.i64_in _ (by omega)
  obtain ⟨t, ht⟩ : ∃ t, t = tkB W C cls wt k pw pc := ⟨_, rfl⟩
  rw [← ht]
  unfold tkB at ht
  by_cases c1 : cls = pc
  rotate_left
  · have d1 : (cls == pc) = false := by simpa using c1
    rw [decide_eq_false c1] at ht
    simp only [Bool.false_and] at ht
    subst ht
    clear c1
    go_enter Try.func75, Try.ntmps75
    go_wp2_with fail
    go_ret
    exact ⟨rfl, by repeat (first | exact Below.refl _ _ | refine Below.alloc ?_ (by simp <;> omega) _)⟩
  subst c1
  by_cases c2 : (k : Int) < C
  rotate_left
  · have d2 : decide ((k : Int) < C) = false := decide_eq_false c2
    rw [d2] at ht
    simp only [Bool.false_and, Bool.and_false] at ht
    subst ht
    clear c2
    go_enter Try.func75, Try.ntmps75
    go_wp2_with fail
    go_ret
    exact ⟨rfl, by repeat (first | exact Below.refl _ _ | refine Below.alloc ?_ (by simp <;> omega) _)⟩
  have d2 : decide ((k : Int) < C) = true := decide_eq_true c2
  rw [d2] at ht
  simp only [decide_true, Bool.true_and] at ht
  clear c2
  by_cases c3 : wt + pw ≤ W
  · have d3 : decide (wt + pw ≤ W) = true := decide_eq_true c3
    rw [d3] at ht
    subst ht
    clear c3
    go_enter Try.func75, Try.ntmps75
    go_wp2_with fail
    go_ret
    exact ⟨rfl, by repeat (first | exact Below.refl _ _ | refine Below.alloc ?_ (by simp <;> omega) _)⟩
  · have d3 : decide (wt + pw ≤ W) = false := decide_eq_false c3
    rw [d3] at ht
    subst ht
    clear c3
    go_enter Try.func75, Try.ntmps75
    go_wp2_with fail
    go_ret
    exact ⟨rfl, by repeat (first | exact Below.refl _ _ | refine Below.alloc ?_ (by simp <;> omega) _)⟩

set_option maxRecDepth 100000 in
set_option maxHeartbeats 2000000 in
theorem sTakes_any (W C cls wt : Int) (pb : Option Addr) (k cb : Nat) (b pw pc : Int) (h1 : -1000000 ≤ wt ∧ wt ≤ 1000000) (h2 : -1000000 ≤ pw ∧ pw ≤ 1000000) (w : World) :
    Calls Try.prog 71 #[.agg #[.int .i64 W, .int .i64 C], .agg #[.int .i64 cls, .int .i64 wt, .slice pb k cb], .agg #[.int .i64 b, .int .i64 pw, .int .i64 pc]] w fun e w' => e = .returned (.bool (tkB W C cls wt k pw pc)) ∧ Below w.heap.size w w' := by
  have hw : IntKind.i64.wrap (wt + pw) = wt + pw := IntWalk.i64_in _ (by omega)
  obtain ⟨t, ht⟩ : ∃ t, t = tkB W C cls wt k pw pc := ⟨_, rfl⟩
  rw [← ht]
  unfold tkB at ht
  by_cases c1 : cls = pc
  rotate_left
  · have d1 : (cls == pc) = false := by simpa using c1
    rw [decide_eq_false c1] at ht
    simp only [Bool.false_and] at ht
    subst ht
    clear c1
    go_enter Try.func71, Try.ntmps71
    go_wp2_with fail
    go_ret
    exact ⟨rfl, by repeat (first | exact Below.refl _ _ | refine Below.alloc ?_ (by simp <;> omega) _)⟩
  subst c1
  by_cases c2 : (k : Int) < C
  rotate_left
  · have d2 : decide ((k : Int) < C) = false := decide_eq_false c2
    rw [d2] at ht
    simp only [Bool.false_and, Bool.and_false] at ht
    subst ht
    clear c2
    go_enter Try.func71, Try.ntmps71
    go_wp2_with fail
    go_ret
    exact ⟨rfl, by repeat (first | exact Below.refl _ _ | refine Below.alloc ?_ (by simp <;> omega) _)⟩
  have d2 : decide ((k : Int) < C) = true := decide_eq_true c2
  rw [d2] at ht
  simp only [decide_true, Bool.true_and] at ht
  clear c2
  by_cases c3 : wt + pw ≤ W
  · have d3 : decide (wt + pw ≤ W) = true := decide_eq_true c3
    rw [d3] at ht
    subst ht
    clear c3
    go_enter Try.func71, Try.ntmps71
    go_wp2_with fail
    go_ret
    exact ⟨rfl, by repeat (first | exact Below.refl _ _ | refine Below.alloc ?_ (by simp <;> omega) _)⟩
  · have d3 : decide (wt + pw ≤ W) = false := decide_eq_false c3
    rw [d3] at ht
    subst ht
    clear c3
    go_enter Try.func71, Try.ntmps71
    go_wp2_with fail
    go_ret
    exact ⟨rfl, by repeat (first | exact Below.refl _ _ | refine Below.alloc ?_ (by simp <;> omega) _)⟩

end Go.Proofs.Ytnkhjlpeeljelaa
