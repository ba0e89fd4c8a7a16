/- What the draws of chapter 1 leave: l01New, l01Tag. -/
import Derived.Test.YtnkhjlpeeljelabCur0
namespace Go.Proofs.Ytnkhjlpeeljelab
open Go.RowKit
set_option linter.unusedVariables false

theorem below_at {B n : Nat} {p : Option Addr} {cap gc oc : Nat} {w : World} {g : Nat} (hn : n ≤ 1048576) (h : Cu B n p cap gc oc w g) (m : Nat) (z : Int) (hz : (m : Int) = z) (hm0 : 0 < m) (hm : m ≤ 4294967296) :
    Calls Try.prog 55 #[.pointer (some ⟨g, 0, none⟩), .int .i64 z] w (DrawPost B n p cap gc oc w g m) := by subst hz; exact below_any hn h m hm0 hm
theorem newC (w : World) (vs : Array Value) (t i : Nat) (v : Value) (h : vs[i]? = some v) : (w.alloc (.cells vs t)).cell? ⟨w.heap.size, i, none⟩ = some v := by
  have hn := heap_alloc_new w (.cells vs t)
  unfold World.cell?
  rw [hn]
  exact h
/-- One of a list of numbers that has just been laid. -/
theorem pickNew {B n : Nat} {p : Option Addr} {cap gc oc : Nat} {w : World} {g : Nat} (hn : n ≤ 1048576) (h : Cu B n p cap gc oc w g) (l : List Int) (m c : Nat) (hm : m = l.length) (hl0 : 0 < l.length) (hl : l.length ≤ 1000) (vs : Array Value) (hvs : vs = (l.map (Value.int .i64)).toArray) (t : TypeId) :
    Calls Try.prog 56 #[.pointer (some ⟨g, 0, none⟩), .slice (some ⟨w.heap.size, 0, none⟩) m c] (w.alloc (.cells vs t)) fun e w' => ∃ x ∈ l, e = .returned (.int .i64 x) ∧ Cu B n p cap gc oc w' g ∧ w.grownBy w' (some g) := by
  subst hm
  have hA : Below w.heap.size w (w.alloc (.cells vs t)) := (Below.refl _ _).alloc (Nat.le_refl _) _
  refine (pickInt_any hn (h.below hA) l w.heap.size c hl0 hl (by have := h.lt; omega) (by simp) (fun j hj => newC w vs t j _ (by rw [hvs]; simp [hj]))).mono ?_
  rintro e w' ⟨x, hx, he, hc, hg⟩
  exact ⟨x, hx, he, hc, (World.grownBy_alloc w _ _).trans hg⟩

set_option maxRecDepth 100000 in
set_option maxHeartbeats 1000000 in
/-- A new cursor. -/
theorem new_any {B n : Nat} {p : Option Addr} {cap gc oc : Nat} {w : World} (hn : n ≤ 1048576) (hB : B ≤ w.heap.size) (hC : Code B n w p gc oc) :
    Calls Try.prog 32 #[.slice p n cap] w fun e w' => ∃ g, e = .returned (.pointer (some ⟨g, 0, none⟩)) ∧ Cu B n p cap gc oc w' g ∧ Below w.heap.size w w' ∧ w.heap.size ≤ g := by
  have H := Lib.hid hC
  clear hC
  go_enter Try.func32, Try.ntmps32
  go_wp2_with fail
  go_loop [3, 4] (fun h i => ∃ (k : Nat) (q : Int), k ≤ n ∧ i = .int .i64 (k : Int) ∧ h = .int .i64 q) (fun _ i => n - (intOf i).toNat)
  case atStart => exact ⟨0, _, by omega, rfl, rfl⟩
  case round =>
    obtain ⟨k, q, hk, rfl, rfl⟩ := hrel
    by_cases hkn : k < n
    · by_cases hk4 : k < 4000
      · obtain ⟨rfl, hgB⟩ := H.out.1 (by omega)
        obtain ⟨x, hx, hc⟩ := H.out.2 k hkn
        have h1 : decide (k < n) = true := decide_eq_true hkn
        have h2 : (k : Int) < (n : Int) := by omega
        have h3 : (k : Int) < 4000 := by omega
        have h0 : (0 : Int) ≤ (k : Int) := by omega
        go_wp2
        go_round
        case rel => exact ⟨k + 1, _, by omega, by go_num, rfl⟩
        case measure => simp [intOf] <;> omega
      · have h1 : decide (k < n) = true := decide_eq_true hkn
        have h2 : (k : Int) < (n : Int) := by omega
        have h3 : decide ((k : Int) < 4000) = false := decide_eq_false (by omega)
        have h4 : decide (k < 4000) = false := decide_eq_false (by omega)
        go_wp2
        go_ret
        exact ⟨w.heap.size, rfl, ⟨hB, ⟨H.out.1, fun j hj => by
          obtain ⟨x, hx, hc⟩ := H.out.2 j hj
          exact ⟨x, hx, (((Below.refl w.heap.size w).alloc (Nat.le_refl _) _).cell (p := ⟨gc, oc + j, none⟩) (by have := (H.out.1 (by omega)).2; show gc < _; omega)).trans hc⟩⟩, ⟨0, q, _, by omega, heap_alloc_new w _⟩⟩, (Below.refl _ _).alloc (Nat.le_refl _) _, Nat.le_refl _⟩
    · have h1 : decide (k < n) = false := decide_eq_false hkn
      have h2 : decide ((k : Int) < (n : Int)) = false := decide_eq_false (by omega)
      go_wp2
      go_ret
      exact ⟨w.heap.size, rfl, ⟨hB, ⟨H.out.1, fun j hj => by
        obtain ⟨x, hx, hc⟩ := H.out.2 j hj
        exact ⟨x, hx, (((Below.refl w.heap.size w).alloc (Nat.le_refl _) _).cell (p := ⟨gc, oc + j, none⟩) (by have := (H.out.1 (by omega)).2; show gc < _; omega)).trans hc⟩⟩, ⟨0, q, _, by omega, heap_alloc_new w _⟩⟩, (Below.refl _ _).alloc (Nat.le_refl _) _, Nat.le_refl _⟩

end Go.Proofs.Ytnkhjlpeeljelab
