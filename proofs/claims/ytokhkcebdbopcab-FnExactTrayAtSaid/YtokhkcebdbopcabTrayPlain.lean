/- The place of a tray: the helpers of both sides. -/
import Derived.Test.YtokhkcebdbopcabLoopOkI
namespace Go.Proofs.Ytokhkcebdbopcab
open Go.RowKit
set_option linter.unusedVariables false

set_option maxRecDepth 100000 in
set_option maxHeartbeats 4000000 in
theorem iHasPos_any (T a : Int) (p1 p2 p3 : Option Addr) (c1 c2 c3 n1 n2 n3 : Nat) (hn : n1 ≤ 1048576) (B : Bool) (w : World)
    (hL : Hid (∀ W, Below w.heap.size w W → Calls Try.prog 18 #[.agg #[.slice p1 n1 c1, .int .i64 T, .slice p2 n2 c2, .slice p3 n3 c3]] W fun e w' => e = .returned (.bool B) ∧ Below W.heap.size W w')) :
    Calls Try.prog 65 #[.agg #[.slice p1 n1 c1, .int .i64 T, .slice p2 n2 c2, .slice p3 n3 c3], .int .i64 a] w fun e w' => e = .returned (.bool (B && inB 0 ((n1 : Int) - 1) a)) ∧ Below w.heap.size w w' := by
  have hwn : IntKind.i64.wrap ((n1 : Int) - 1) = (n1 : Int) - 1 := IntWalk.i64_in _ (by omega)
  have HX := Lib.hid (fun (W : World) (hW : Below (w.heap.size + 1) (w.alloc (.cells #[.slice p1 n1 c1, .int .i64 T, .slice p2 n2 c2, .slice p3 n3 c3] 32)) W) => show Below w.heap.size w W ∧ W.heap[w.heap.size]? = some (.cells #[.slice p1 n1 c1, .int .i64 T, .slice p2 n2 c2, .slice p3 n3 c3] 32 (0, 0)) from
    ⟨((Below.refl _ _).alloc (Nat.le_refl _) _).trans (hW.mono (by omega)), (hW.block w.heap.size (by omega)).trans (heap_new _ _ _ rfl)⟩)
  obtain ⟨D, hD⟩ : ∃ D, D = inB 0 ((n1 : Int) - 1) a := ⟨_, rfl⟩
  have HI := Lib.hid hD.symm
  rw [← hD]
  clear hD
  cases B
  · rw [Bool.false_and]
    go_enter Try.func65, Try.ntmps65
    go_wp2_with (go_at_call 18; refine (hL.out _ ((Below.refl _ _).alloc (Nat.le_refl _) _)).mono ?_; rintro e w5 ⟨rfl, hb5⟩; have H5 := HX.out w5 (hb5.mono (by simp)); clear hb5)
    go_ret
    exact ⟨rfl, H5.1⟩
  rw [Bool.true_and]
  go_enter Try.func65, Try.ntmps65
  go_wp2_with (first
    | (go_at_call 18; refine (hL.out _ ((Below.refl _ _).alloc (Nat.le_refl _) _)).mono ?_; rintro e w5 ⟨rfl, hb5⟩; have H5 := HX.out w5 (hb5.mono (by simp)); clear hb5; obtain ⟨x0, x1, x2, x3, -, -, -, -⟩ := cells4 H5.2)
    | (go_at_call 57; refine (within_at HI.out _).mono ?_; rintro e w4 ⟨rfl, rfl⟩))
  go_ret
  exact ⟨rfl, H5.1⟩

set_option maxRecDepth 100000 in
set_option maxHeartbeats 4000000 in
theorem iIndexAt_any (T a : Int) (p1 p2 p3 : Option Addr) (c1 c2 c3 n1 n2 n3 : Nat) (hn : n1 ≤ 1048576) (hT : 0 ≤ T ∧ T ≤ (n1 : Int) - 1) (ha : 0 ≤ a ∧ a ≤ (n1 : Int) - 1) (w : World) :
    Calls Try.prog 66 #[.agg #[.slice p1 n1 c1, .int .i64 T, .slice p2 n2 c2, .slice p3 n3 c3], .int .i64 a] w fun e w' => e = .returned (.int .i64 ((a - T + (n1 : Int)).tmod (n1 : Int))) ∧ Below w.heap.size w w' := by
  have hw1 : IntKind.i64.wrap (a - T) = a - T := IntWalk.i64_in _ (by omega)
  have hw2 : IntKind.i64.wrap (a - T + (n1 : Int)) = a - T + (n1 : Int) := IntWalk.i64_in _ (by omega)
  have hm : 0 ≤ (a - T + (n1 : Int)).tmod (n1 : Int) ∧ (a - T + (n1 : Int)).tmod (n1 : Int) < (n1 : Int) := ⟨Int.tmod_nonneg _ (by omega), Int.tmod_lt_of_pos _ (by omega)⟩
  have hw3 : IntKind.i64.wrap ((a - T + (n1 : Int)).tmod (n1 : Int)) = (a - T + (n1 : Int)).tmod (n1 : Int) := IntWalk.i64_in _ (by omega)
  have hne : n1 ≠ 0 := by omega
  have hnz : (n1 : Int) ≠ 0 := by omega
  clear hT ha hm
  go_enter Try.func66, Try.ntmps66
  go_wp2_with fail
  go_ret
  exact ⟨rfl, (Below.refl _ _).alloc (Nat.le_refl _) _⟩

set_option maxRecDepth 100000 in
set_option maxHeartbeats 4000000 in
theorem sTray_any (T a : Int) (p1 p2 p3 : Option Addr) (c1 c2 c3 n1 n2 n3 : Nat) (hn : n1 ≤ 1048576) (hT : 0 ≤ T ∧ T ≤ (n1 : Int) - 1) (ha : 0 ≤ a ∧ a ≤ (n1 : Int) - 1) (w : World) :
    Calls Try.prog 64 #[.agg #[.slice p1 n1 c1, .int .i64 T, .slice p2 n2 c2, .slice p3 n3 c3], .int .i64 a] w fun e w' => e = .returned (.int .i64 ((a - T + (n1 : Int)).tmod (n1 : Int))) ∧ Below w.heap.size w w' := by
  have hw1 : IntKind.i64.wrap (a - T) = a - T := IntWalk.i64_in _ (by omega)
  have hw2 : IntKind.i64.wrap (a - T + (n1 : Int)) = a - T + (n1 : Int) := IntWalk.i64_in _ (by omega)
  have hm : 0 ≤ (a - T + (n1 : Int)).tmod (n1 : Int) ∧ (a - T + (n1 : Int)).tmod (n1 : Int) < (n1 : Int) := ⟨Int.tmod_nonneg _ (by omega), Int.tmod_lt_of_pos _ (by omega)⟩
  have hw3 : IntKind.i64.wrap ((a - T + (n1 : Int)).tmod (n1 : Int)) = (a - T + (n1 : Int)).tmod (n1 : Int) := IntWalk.i64_in _ (by omega)
  have hne : n1 ≠ 0 := by omega
  have hnz : (n1 : Int) ≠ 0 := by omega
  clear hT ha hm
  go_enter Try.func64, Try.ntmps64
  go_wp2_with fail
  go_ret
  exact ⟨rfl, (Below.refl _ _).alloc (Nat.le_refl _) _⟩

/-- The tray at a position of a loop whose check gave 'B'. -/
def trA (B : Bool) (T a : Int) (n1 : Nat) : Int := if B = true ∧ 0 ≤ a ∧ a ≤ (n1 : Int) - 1 then (a - T + (n1 : Int)).tmod (n1 : Int) else -1

set_option maxRecDepth 100000 in
set_option maxHeartbeats 4000000 in
theorem iTrayAt_any (T a : Int) (p1 p2 p3 : Option Addr) (c1 c2 c3 n1 n2 n3 : Nat) (hn : n1 ≤ 1048576) (B : Bool) (hB : B = true → 0 ≤ T ∧ T ≤ (n1 : Int) - 1) (w : World)
    (hL : Hid (∀ W, Below w.heap.size w W → Calls Try.prog 18 #[.agg #[.slice p1 n1 c1, .int .i64 T, .slice p2 n2 c2, .slice p3 n3 c3]] W fun e w' => e = .returned (.bool B) ∧ Below W.heap.size W w')) :
    Calls Try.prog 21 #[.agg #[.slice p1 n1 c1, .int .i64 T, .slice p2 n2 c2, .slice p3 n3 c3], .int .i64 a] w fun e w' => e = .returned (.int .i64 (trA B T a n1)) ∧ Below w.heap.size w w' := by
  have HP := Lib.hid (fun W (hW : Below w.heap.size w W) => iHasPos_any T a p1 p2 p3 c1 c2 c3 n1 n2 n3 hn B W (Lib.hid (fun V hV => hL.out V (hW.trans (hV.mono hW.size)))))
  have HX := Lib.hid (fun (W : World) (hW : Below (w.heap.size + 1) (w.alloc (.cells #[.slice p1 n1 c1, .int .i64 T, .slice p2 n2 c2, .slice p3 n3 c3] 32)) W) => show Below w.heap.size w W ∧ W.heap[w.heap.size]? = some (.cells #[.slice p1 n1 c1, .int .i64 T, .slice p2 n2 c2, .slice p3 n3 c3] 32 (0, 0)) from
    ⟨((Below.refl _ _).alloc (Nat.le_refl _) _).trans (hW.mono (by omega)), (hW.block w.heap.size (by omega)).trans (heap_new _ _ _ rfl)⟩)
  obtain ⟨R, hR⟩ : ∃ R, R = trA B T a n1 := ⟨_, rfl⟩
  rw [← hR]
  unfold trA at hR
  by_cases h : B = true ∧ 0 ≤ a ∧ a ≤ (n1 : Int) - 1
  rotate_left
  · rw [if_neg h] at hR
    subst hR
    have hf : (B && inB 0 ((n1 : Int) - 1) a) = false := by
      cases B
      · rfl
      · rw [Bool.true_and]; exact inB_no.2 (fun hh => h ⟨rfl, hh⟩)
    rw [hf] at HP
    clear h hf hL hB
    go_enter Try.func21, Try.ntmps21
    go_wp2_with (go_at_call 65; refine (HP.out _ ((Below.refl _ _).alloc (Nat.le_refl _) _)).mono ?_; rintro e w5 ⟨rfl, hb5⟩; have H5 := HX.out w5 (hb5.mono (by simp)); clear hb5)
    go_ret
    exact ⟨rfl, H5.1⟩
  rw [if_pos h] at hR
  have hf : (B && inB 0 ((n1 : Int) - 1) a) = true := by rw [h.1, Bool.true_and]; exact inB_iff.2 h.2
  rw [hf] at HP
  have HQ := Lib.hid (fun W => iIndexAt_any T a p1 p2 p3 c1 c2 c3 n1 n2 n3 hn (hB h.1) h.2 W)
  rw [← hR] at HQ
  clear h hf hL hB hR
  go_enter Try.func21, Try.ntmps21
  go_wp2_with (first
    | (go_at_call 65; refine (HP.out _ ((Below.refl _ _).alloc (Nat.le_refl _) _)).mono ?_; rintro e w5 ⟨rfl, hb5⟩; have H5 := HX.out w5 (hb5.mono (by simp)); clear hb5; obtain ⟨x0, x1, x2, x3, -, -, -, -⟩ := cells4 H5.2)
    | (go_at_call 66; refine (HQ.out _).mono ?_; rintro e w6 ⟨rfl, hb6⟩; have H6 := Lib.hid (H5.1.trans (hb6.mono H5.1.size)); clear hb6))
  go_ret
  exact ⟨rfl, H6.out⟩

set_option maxRecDepth 100000 in
set_option maxHeartbeats 4000000 in
theorem sTrayAt_any (T a : Int) (p1 p2 p3 : Option Addr) (c1 c2 c3 n1 n2 n3 : Nat) (hn : n1 ≤ 1048576) (B : Bool) (hB : B = true → 0 ≤ T ∧ T ≤ (n1 : Int) - 1) (w : World)
    (hL : Hid (∀ W, Below w.heap.size w W → Calls Try.prog 16 #[.agg #[.slice p1 n1 c1, .int .i64 T, .slice p2 n2 c2, .slice p3 n3 c3]] W fun e w' => e = .returned (.bool B) ∧ Below W.heap.size W w')) :
    Calls Try.prog 20 #[.agg #[.slice p1 n1 c1, .int .i64 T, .slice p2 n2 c2, .slice p3 n3 c3], .int .i64 a] w fun e w' => e = .returned (.int .i64 (trA B T a n1)) ∧ Below w.heap.size w w' := by
  have hwn : IntKind.i64.wrap ((n1 : Int) - 1) = (n1 : Int) - 1 := IntWalk.i64_in _ (by omega)
  have HX := Lib.hid (fun (W : World) (hW : Below (w.heap.size + 1) (w.alloc (.cells #[.slice p1 n1 c1, .int .i64 T, .slice p2 n2 c2, .slice p3 n3 c3] 32)) W) => show Below w.heap.size w W ∧ W.heap[w.heap.size]? = some (.cells #[.slice p1 n1 c1, .int .i64 T, .slice p2 n2 c2, .slice p3 n3 c3] 32 (0, 0)) from
    ⟨((Below.refl _ _).alloc (Nat.le_refl _) _).trans (hW.mono (by omega)), (hW.block w.heap.size (by omega)).trans (heap_new _ _ _ rfl)⟩)
  obtain ⟨R, hR⟩ : ∃ R, R = trA B T a n1 := ⟨_, rfl⟩
  rw [← hR]
  unfold trA at hR
  cases B
  · rw [if_neg (by simp)] at hR
    subst hR
    clear hB
    go_enter Try.func20, Try.ntmps20
    go_wp2_with (go_at_call 16; refine (hL.out _ ((Below.refl _ _).alloc (Nat.le_refl _) _)).mono ?_; rintro e w5 ⟨rfl, hb5⟩; have H5 := HX.out w5 (hb5.mono (by simp)); clear hb5)
    go_ret
    exact ⟨rfl, H5.1⟩
  by_cases h : 0 ≤ a ∧ a ≤ (n1 : Int) - 1
  rotate_left
  · rw [if_neg (fun hh => h hh.2)] at hR
    subst hR
    have HI := Lib.hid (inB_no.2 h)
    clear h hB
    go_enter Try.func20, Try.ntmps20
    go_wp2_with (first
      | (go_at_call 16; refine (hL.out _ ((Below.refl _ _).alloc (Nat.le_refl _) _)).mono ?_; rintro e w5 ⟨rfl, hb5⟩; have H5 := HX.out w5 (hb5.mono (by simp)); clear hb5; obtain ⟨x0, x1, x2, x3, -, -, -, -⟩ := cells4 H5.2)
      | (go_at_call 53; refine (specIn_at HI.out _).mono ?_; rintro e w4 ⟨rfl, rfl⟩))
    go_ret
    exact ⟨rfl, H5.1⟩
  rw [if_pos ⟨rfl, h⟩] at hR
  have HI := Lib.hid (inB_iff.2 h)
  have HQ := Lib.hid (fun W => sTray_any T a p1 p2 p3 c1 c2 c3 n1 n2 n3 hn (hB rfl) h W)
  rw [← hR] at HQ
  clear h hB hR
  go_enter Try.func20, Try.ntmps20
  go_wp2_with (first
    | (go_at_call 16; refine (hL.out _ ((Below.refl _ _).alloc (Nat.le_refl _) _)).mono ?_; rintro e w5 ⟨rfl, hb5⟩; have H5 := HX.out w5 (hb5.mono (by simp)); clear hb5; obtain ⟨x0, x1, x2, x3, -, -, -, -⟩ := cells4 H5.2)
    | (go_at_call 53; refine (specIn_at HI.out _).mono ?_; rintro e w4 ⟨rfl, rfl⟩)
    | (go_at_call 64; refine (HQ.out _).mono ?_; rintro e w6 ⟨rfl, hb6⟩; have H6 := Lib.hid (H5.1.trans (hb6.mono H5.1.size)); clear hb6))
  go_ret
  exact ⟨rfl, H6.out⟩

end Go.Proofs.Ytokhkcebdbopcab
