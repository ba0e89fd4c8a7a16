/- What the program's weightsOk returns: the library's ContainsFunc with its closure. -/
import Derived.Test.YtnkhjlpeeljelabLoadPlain
import Derived.Test.YtnkhjlpeeljelabFlat
import Derived.Test.YtnkhjlpeeljelabChecked
import Derived.Test.YtnkhjlpeeljelabSmall
import Derived.Deep.LoopGhost
import Derived.OwnWalk
import Derived.IntWalk
import Derived.Shelf.Abstract
namespace Go.Proofs.Ytnkhjlpeeljelab
open Go.RowKit Go.Shelf
set_option linter.unusedVariables false

theorem tooFar_at {x lo : Int} {t : Bool} (ht : inB lo 2000 x = !t) (b : Nat) (W : World) (hb : W.cell? ⟨b, 0, none⟩ = some (.int .i64 lo)) :
    Calls Try.prog 72 #[.int .i64 x, .pointer (some ⟨b, 0, none⟩)] W fun e w' => e = .returned (.bool t) ∧ W = w' := by
  cases t
  all_goals
    have h2 := Lib.hid ht
    clear ht
    go_enter Try.func72, Try.ntmps72
    go_wp2_with (go_at_call 49; with_reducible refine (within_at h2.out _).mono ?_; rintro e w4 ⟨rfl, rfl⟩)
    go_ret
    exact ⟨rfl, rfl⟩

set_option maxRecDepth 100000 in
set_option maxHeartbeats 1000000 in
theorem tooFar_index (n : Nat) (hn : n ≤ maxLen) (z : Nat → Int) (p : Option Addr) (c g o : Nat) (lo : Int) (b : Nat) (w : World) (hb : w.cell? ⟨b, 0, none⟩ = some (.int .i64 lo)) (h : FlatAt w 0 w.heap.size p g o n (fun j => .int .i64 (z j))) :
    Calls Try.prog 80 #[.slice p n c, .func (.func 72) #[] #[.pointer (some ⟨b, 0, none⟩)]] w fun e w' => (∃ i : Int, e = .returned (.int .i64 i) ∧ (0 ≤ i ↔ ∃ j, j < n ∧ inB lo 2000 (z j) = false)) ∧ w = w' := by
  unfold maxLen at hn
  have eg : ∀ args w, (callFunc 72 args).run Try.prog w = .ok (.enter 72 args) w := enters_of Try.func72 (by kernel_rfl) rfl
  have H := Lib.hid h
  have HC := Lib.hid hb
  clear h hb
  go_enter Try.func80, Try.ntmps80
  go_wp2_with fail
  go_loopw [8] (fun v wr => ∃ k : Nat, k ≤ n ∧ v = .int .i64 (k : Int) ∧ w = wr ∧ Hid (∀ j, j < k → inB lo 2000 (z j) = true)) (fun v _ => n - (intOf v).toNat)
  case atStart => exact ⟨0, by omega, rfl, rfl, fun j hj => absurd hj (by omega)⟩
  case round =>
    obtain ⟨k, hk, rfl, rfl, HN⟩ := hrel
    by_cases hkn : k < n
    · obtain ⟨rfl, -, hg⟩ := H.out.1 (by omega)
      have a0 := H.out.int k hkn
      have hk0 : (0 : Int) ≤ (k : Int) := by omega
      have hkl : (k : Int) < (n : Int) := by omega
      have hwk : IntKind.i64.wrap ((k : Int) + 1) = (k : Int) + 1 := IntWalk.i64_in _ (by omega)
      rcases Bool.eq_false_or_eq_true (inB lo 2000 (z k)) with hx | hx
      · have hc := Lib.hid (tooFar_at (t := false) hx b w HC.out)
        have HX := Lib.hid hx
        clear hx
        go_wp2_with (go_at_fn 72; refine hc.out.mono ?_; rintro e w2 ⟨rfl, rfl⟩)
        go_roundw
        case rel => exact ⟨k + 1, by omega, by congr 1, by first | rfl | trivial, fun j hj => by
          by_cases e : j = k
          · subst e; exact HX.out
          · exact HN.out j (by omega)⟩
        case measure => simp only [intOf]; omega
      · have hc := Lib.hid (tooFar_at (t := true) hx b w HC.out)
        have HX := Lib.hid hx
        clear hx
        go_wp2_with (go_at_fn 72; refine hc.out.mono ?_; rintro e w2 ⟨rfl, rfl⟩)
        go_ret
        exact ⟨⟨k, rfl, ⟨fun _ => ⟨k, hkn, HX.out⟩, fun _ => hk0⟩⟩, rfl⟩
    · obtain rfl : k = n := by omega
      go_wp2_with fail
      go_ret
      refine ⟨⟨-1, rfl, ⟨fun h => absurd h (by omega), ?_⟩⟩, rfl⟩
      rintro ⟨j, hj, hz⟩
      rw [HN.out j hj] at hz
      cases hz

theorem tooFar_any (n : Nat) (hn : n ≤ maxLen) (z : Nat → Int) (p : Option Addr) (c g o : Nat) (lo : Int) (b : Nat) (w : World) (hb : w.cell? ⟨b, 0, none⟩ = some (.int .i64 lo)) (h : FlatAt w 0 w.heap.size p g o n (fun j => .int .i64 (z j))) (t : Bool) (ht : t = true ↔ ∃ j, j < n ∧ inB lo 2000 (z j) = false) :
    Calls Try.prog 73 #[.slice p n c, .func (.func 72) #[] #[.pointer (some ⟨b, 0, none⟩)]] w fun e w' => e = .returned (.bool t) ∧ w = w' := by
  have hc := Lib.hid (tooFar_index n hn z p c g o lo b w hb h)
  clear h hb
  go_enter Try.func73, Try.ntmps73
  go_wp2_with fail
  refine hc.out.mono ?_
  rintro e w2 ⟨⟨i, rfl, hi⟩, rfl⟩
  have ht2 : t = true ↔ 0 ≤ i := ht.trans hi.symm
  clear ht hi
  cases t
  · have hi0 : ¬ (0 ≤ i) := fun h => by have := ht2.2 h; cases this
    clear ht2
    have hd : decide (0 ≤ i) = false := decide_eq_false hi0
    go_wp2
    go_ret
    exact ⟨rfl, rfl⟩
  · have hi0 : 0 ≤ i := ht2.1 rfl
    clear ht2
    go_wp2
    go_ret
    exact ⟨rfl, rfl⟩

theorem wsOk_far {lo : Int} {n : Nat} {z : Nat → Int} (hn : n ≤ 12) : decide (wsOk lo n z) = false ↔ ∃ j, j < n ∧ inB lo 2000 (z j) = false := by
  rw [decide_eq_false_iff_not]
  unfold wsOk
  constructor
  · intro h
    by_cases he : ∃ j, j < n ∧ inB lo 2000 (z j) = false
    · exact he
    · exact absurd ⟨hn, fun k hk => by
        have h2 : ¬ (inB lo 2000 (z k) = false) := fun h2 => he ⟨k, hk, h2⟩
        exact inB_iff.1 (by simpa using h2)⟩ h
  · rintro ⟨j, hj, h⟩ hh
    exact inB_no.1 h (hh.2 j hj)

set_option maxRecDepth 100000 in
set_option maxHeartbeats 1000000 in
theorem iWeights_any (lo : Int) (n : Nat) (hn : n ≤ maxLen) (z : Nat → Int) (p : Option Addr) (c g o : Nat) (w : World) (h : FlatAt w 0 w.heap.size p g o n (fun j => .int .i64 (z j))) :
    Calls Try.prog 61 #[.slice p n c, .int .i64 lo] w fun e w' => e = .returned (.bool (decide (wsOk lo n z))) ∧ Below w.heap.size w w' := by
  obtain ⟨t, ht⟩ : ∃ t, t = decide (wsOk lo n z) := ⟨_, rfl⟩
  rw [← ht]
  by_cases hn12 : n ≤ 12
  · have hd : decide ((n : Int) ≤ 12) = true := decide_eq_true (by omega)
    have hd2 : (n : Int) ≤ 12 := by omega
    have hfar := wsOk_far (lo := lo) (z := z) hn12
    rw [← ht] at hfar
    have hh := Lib.hid (h.below ((Below.refl _ _).alloc (Nat.le_refl _) (.cells #[.int .i64 lo] 3)) (Nat.le_refl _))
    cases t
    · have hc := Lib.hid (tooFar_any n hn z p c g o lo w.heap.size (w.alloc (.cells #[.int .i64 lo] 3)) (by rw [cell_of_row _ _ _ _ _ _ (heap_alloc_new w _)]; rfl) (hh.out.wide (Nat.le_refl _) (by simp)) true ⟨fun _ => hfar.1 rfl, fun _ => rfl⟩)
      clear ht hfar h
      go_enter Try.func61, Try.ntmps61
      go_wp2_with (go_at_call 73; refine hc.out.mono ?_; rintro e w2 ⟨rfl, rfl⟩)
      go_ret
      exact ⟨rfl, (Below.refl _ _).alloc (Nat.le_refl _) _⟩
    · have hc := Lib.hid (tooFar_any n hn z p c g o lo w.heap.size (w.alloc (.cells #[.int .i64 lo] 3)) (by rw [cell_of_row _ _ _ _ _ _ (heap_alloc_new w _)]; rfl) (hh.out.wide (Nat.le_refl _) (by simp)) false ⟨fun h => (by cases h), fun h => (by have := hfar.2 h; cases this)⟩)
      clear ht hfar h
      go_enter Try.func61, Try.ntmps61
      go_wp2_with (go_at_call 73; refine hc.out.mono ?_; rintro e w2 ⟨rfl, rfl⟩)
      go_ret
      exact ⟨rfl, (Below.refl _ _).alloc (Nat.le_refl _) _⟩
  · have hd : decide ((n : Int) ≤ 12) = false := decide_eq_false (by omega)
    have HT := Lib.hid (ht.trans (decide_eq_false (p := wsOk lo n z) (fun h => hn12 h.1)))
    clear ht h
    go_enter Try.func61, Try.ntmps61
    go_wp2_with fail
    go_ret
    exact ⟨by rw [HT.out]; first | done | rfl, (Below.refl _ _).alloc (Nat.le_refl _) _⟩

end Go.Proofs.Ytnkhjlpeeljelab
