/- What the program's amount and sidesOf and the model's l07Amount and l07Sides return. -/
import Derived.Test.YtnkhjlpeeljelabLoadPlain
import Derived.Test.YtnkhjlpeeljelabBools0
namespace Go.Proofs.Ytnkhjlpeeljelab
open Go.RowKit
set_option linter.unusedVariables false

theorem and1 (n : Int) : bits .and .i64 n 1 = n % 2 := by
  have h255 : (BitVec.ofInt 64 1).toNat = 2 ^ 1 - 1 := by decide
  have key : (BitVec.ofInt 64 n &&& BitVec.ofInt 64 1).toNat = (n % ((2 ^ 64 : Nat) : Int)).toNat % 2 ^ 1 := by
    rw [BitVec.toNat_and, BitVec.toNat_ofInt, h255, Nat.and_two_pow_sub_one_eq_mod]
  show IntKind.i64.wrap ((BitVec.ofInt 64 n &&& BitVec.ofInt 64 1).toNat : Nat) = n % 2
  rw [key, IntKind.wrap_i64]
  omega
theorem side_bit (n y k : Nat) : (bits .and .i64 ((y : Int) / 2 ^ (n - 1 - k)) 1 == 0) = sdl n y k := by
  rw [and1]
  have h : ((y : Int) / 2 ^ (n - 1 - k)) = ((y / 2 ^ (n - 1 - k) : Nat) : Int) := by rw [Int.natCast_ediv, Int.natCast_pow]; rfl
  rw [h]
  unfold sdl
  obtain ⟨q, hq⟩ : ∃ q, q = y / 2 ^ (n - 1 - k) := ⟨_, rfl⟩
  rw [← hq, Bool.eq_iff_iff]
  simp
  omega

theorem iAmount_any (x y : Int) (h1 : -100000 ≤ x) (h2 : x ≤ 100000) (hy : (if x < 0 then -x else x) = y) (w : World) :
    Calls Try.prog 62 #[.int .i64 x] w fun e w' => e = .returned (.int .i64 y) ∧ w = w' := by
  subst hy
  have hw : IntKind.i64.wrap (-x) = -x := IntWalk.i64_in _ (by omega)
  rcases Int.lt_trichotomy x 0 with h | h | h
  · rw [if_pos h]
    have d1 : decide (x < -x) = true := decide_eq_true (by omega)
    have d2 : decide (-x < x) = false := decide_eq_false (by omega)
    have d3 : (x == -x) = false := by simp; omega
    go_enter Try.func62, Try.ntmps62
    go_wp2_with fail
    go_ret
    exact ⟨rfl, rfl⟩
  · subst h
    go_enter Try.func62, Try.ntmps62
    go_wp2_with fail
    go_ret
    exact ⟨rfl, rfl⟩
  · rw [if_neg (by omega)]
    have d1 : decide (x < -x) = false := decide_eq_false (by omega)
    have d2 : decide (-x < x) = true := decide_eq_true (by omega)
    have d3 : (x == -x) = false := by simp; omega
    go_enter Try.func62, Try.ntmps62
    go_wp2_with fail
    go_ret
    exact ⟨rfl, rfl⟩

theorem sAmount_any (x y : Int) (h1 : -100000 ≤ x) (h2 : x ≤ 100000) (hy : (if x < 0 then -x else x) = y) (w : World) :
    Calls Try.prog 64 #[.int .i64 x] w fun e w' => e = .returned (.int .i64 y) ∧ w = w' := by
  subst hy
  have hw : IntKind.i64.wrap (-x) = -x := IntWalk.i64_in _ (by omega)
  rcases Int.lt_trichotomy x 0 with h | h | h
  · rw [if_pos h]
    have d1 : decide (x < -x) = true := decide_eq_true (by omega)
    have d2 : decide (-x < x) = false := decide_eq_false (by omega)
    have d3 : (x == -x) = false := by simp; omega
    go_enter Try.func64, Try.ntmps64
    go_wp2_with fail
    go_ret
    exact ⟨rfl, rfl⟩
  · subst h
    go_enter Try.func64, Try.ntmps64
    go_wp2_with fail
    go_ret
    exact ⟨rfl, rfl⟩
  · rw [if_neg (by omega)]
    have d1 : decide (x < -x) = false := decide_eq_false (by omega)
    have d2 : decide (-x < x) = true := decide_eq_true (by omega)
    have d3 : (x == -x) = false := by simp; omega
    go_enter Try.func64, Try.ntmps64
    go_wp2_with fail
    go_ret
    exact ⟨rfl, rfl⟩

set_option maxRecDepth 100000 in
set_option maxHeartbeats 2000000 in
theorem iSides_any (n : Nat) (hn : n ≤ 12) (y : Nat) (hy : y ≤ 4096) (w : World) :
    Calls Try.prog 63 #[.int .i64 (y : Int), .int .i64 (n : Int)] w fun e w' => ∃ v, e = .returned v ∧ OwnB w' w.heap.size w'.heap.size v n (sdl n y) ∧ Below w.heap.size w w' := by
  obtain ⟨i0, hi, hz0, hz1, hz2⟩ := info_parts infoBool
  have hmk := fun W => run_make (P := Try.prog) W 43 4 i0 _ Try.underlying43 hi hz0 .i64 .i64 (n : Int) (n : Int) (by omega) (by omega) (by rw [hz2]; omega) (by omega)
  simp only [Int.toNat_natCast, hz1, Nat.mul_one] at hmk
  obtain ⟨C, hC⟩ : ∃ C, C = madeCells (Value.bool false).cells n := ⟨_, rfl⟩
  have hCs : C.size = n := by rw [hC]; exact size_madeCells _ _
  rw [← hC] at hmk
  have HC := Lib.hid hCs
  clear hC hCs hz0 hz1 hz2
  go_enter Try.func63, Try.ntmps63
  go_wp2_with fail
  go_loopw [11] (fun v wr => ∃ (k : Nat) (cur : Array Value), k ≤ n ∧ v = .int .i64 (k : Int) ∧ wr.heap[w.heap.size]? = some (.cells cur 4 (0, 0)) ∧ cur.size = n ∧ Hid (∀ j, j < k → cur[j]? = some (.bool (sdl n y j))) ∧ Below w.heap.size w wr) (fun v _ => n - (intOf v).toNat)
  case atStart => exact ⟨0, C, by omega, rfl, heap_alloc_new _ _, HC.out, fun j hj => absurd hj (by omega), (Below.refl _ _).alloc (Nat.le_refl _) _⟩
  case round =>
    obtain ⟨k, cur, hk, rfl, hblk, hcs, HY, hbw⟩ := hrel
    by_cases hkn : k < n
    · have hk0 : (0 : Int) ≤ (k : Int) := by omega
      have hkl : (k : Int) < (n : Int) := by omega
      have hwk : IntKind.i64.wrap ((k : Int) + 1) = (k : Int) + 1 := IntWalk.i64_in _ (by omega)
      have hw1 : IntKind.i64.wrap ((n : Int) - 1) = (n : Int) - 1 := IntWalk.i64_in _ (by omega)
      have hw2 : IntKind.i64.wrap ((n : Int) - 1 - (k : Int)) = (n : Int) - 1 - (k : Int) := IntWalk.i64_in _ (by omega)
      obtain ⟨u0, hu0⟩ : ∃ u, cur[k]? = some u := ⟨_, Array.getElem?_eq_getElem (by omega)⟩
      have b0 := (cell_of_row wr w.heap.size k cur 4 (0, 0) hblk).trans hu0
      have f0 := frozen_of_row wr w.heap.size k cur 4 hblk
      have HB := Lib.hid hblk
      clear hblk hu0
      have HBIT := Lib.hid (side_bit n y k)
      go_wp2_with fail
      go_roundw
      case rel =>
        rw [HBIT.out]
        refine ⟨k + 1, _, by omega, by congr 1, blk_set HB.out _, by simp [hcs], ?_, hbw.setCell (Nat.le_refl _) _⟩
        intro j hj
        simp only [Array.getElem?_setIfInBounds, Array.size_setIfInBounds]
        by_cases e0 : k = j
        · subst e0; simp [hcs]; try omega
        rw [if_neg e0]
        exact HY.out j (by omega)
      case measure => simp only [intOf]; omega
    · obtain rfl : k = n := by omega
      have hgs : w.heap.size < wr.heap.size := (Array.getElem?_eq_some_iff.1 hblk).1
      have HB := Lib.hid hblk
      clear hblk
      go_wp2_with fail
      go_ret
      exact ⟨_, rfl, ⟨_, _, w.heap.size, 0, rfl, Nat.le_refl _, ⟨fun _ => ⟨rfl, Nat.le_refl _, hgs⟩, fun j hj => by rw [Nat.zero_add, cell_of_row wr _ _ _ _ _ HB.out]; exact HY.out j hj⟩, fun j _ => frozen_of_row wr _ _ _ _ HB.out⟩, hbw⟩

set_option maxRecDepth 100000 in
set_option maxHeartbeats 2000000 in
theorem sSides_any (n : Nat) (hn : n ≤ 12) (y : Nat) (hy : y ≤ 4096) (w : World) :
    Calls Try.prog 65 #[.int .i64 (n : Int), .int .i64 (y : Int)] w fun e w' => ∃ v, e = .returned v ∧ OwnB w' w.heap.size w'.heap.size v n (sdl n y) ∧ Below w.heap.size w w' := by
  obtain ⟨i0, hi, hz0, hz1, hz2⟩ := info_parts infoBool
  have hmk := fun W => run_make (P := Try.prog) W 43 4 i0 _ Try.underlying43 hi hz0 .i64 .i64 (n : Int) (n : Int) (by omega) (by omega) (by rw [hz2]; omega) (by omega)
  simp only [Int.toNat_natCast, hz1, Nat.mul_one] at hmk
  obtain ⟨C, hC⟩ : ∃ C, C = madeCells (Value.bool false).cells n := ⟨_, rfl⟩
  have hCs : C.size = n := by rw [hC]; exact size_madeCells _ _
  rw [← hC] at hmk
  have HC := Lib.hid hCs
  clear hC hCs hz0 hz1 hz2
  go_enter Try.func65, Try.ntmps65
  go_wp2_with fail
  go_loopw [6] (fun v wr => ∃ (k : Nat) (cur : Array Value), k ≤ n ∧ v = .int .i64 (k : Int) ∧ wr.heap[w.heap.size]? = some (.cells cur 4 (0, 0)) ∧ cur.size = n ∧ Hid (∀ j, j < k → cur[j]? = some (.bool (sdl n y j))) ∧ Below w.heap.size w wr) (fun v _ => n - (intOf v).toNat)
  case atStart => exact ⟨0, C, by omega, rfl, heap_alloc_new _ _, HC.out, fun j hj => absurd hj (by omega), (Below.refl _ _).alloc (Nat.le_refl _) _⟩
  case round =>
    obtain ⟨k, cur, hk, rfl, hblk, hcs, HY, hbw⟩ := hrel
    by_cases hkn : k < n
    · have hk0 : (0 : Int) ≤ (k : Int) := by omega
      have hkl : (k : Int) < (n : Int) := by omega
      have hwk : IntKind.i64.wrap ((k : Int) + 1) = (k : Int) + 1 := IntWalk.i64_in _ (by omega)
      have hw1 : IntKind.i64.wrap ((n : Int) - 1) = (n : Int) - 1 := IntWalk.i64_in _ (by omega)
      have hw2 : IntKind.i64.wrap ((n : Int) - 1 - (k : Int)) = (n : Int) - 1 - (k : Int) := IntWalk.i64_in _ (by omega)
      obtain ⟨u0, hu0⟩ : ∃ u, cur[k]? = some u := ⟨_, Array.getElem?_eq_getElem (by omega)⟩
      have b0 := (cell_of_row wr w.heap.size k cur 4 (0, 0) hblk).trans hu0
      have f0 := frozen_of_row wr w.heap.size k cur 4 hblk
      have HB := Lib.hid hblk
      clear hblk hu0
      have HBIT := Lib.hid (side_bit n y k)
      go_wp2_with fail
      go_roundw
      case rel =>
        rw [HBIT.out]
        refine ⟨k + 1, _, by omega, by congr 1, blk_set HB.out _, by simp [hcs], ?_, hbw.setCell (Nat.le_refl _) _⟩
        intro j hj
        simp only [Array.getElem?_setIfInBounds, Array.size_setIfInBounds]
        by_cases e0 : k = j
        · subst e0; simp [hcs]; try omega
        rw [if_neg e0]
        exact HY.out j (by omega)
      case measure => simp only [intOf]; omega
    · obtain rfl : k = n := by omega
      have hgs : w.heap.size < wr.heap.size := (Array.getElem?_eq_some_iff.1 hblk).1
      have HB := Lib.hid hblk
      clear hblk
      go_wp2_with fail
      go_ret
      exact ⟨_, rfl, ⟨_, _, w.heap.size, 0, rfl, Nat.le_refl _, ⟨fun _ => ⟨rfl, Nat.le_refl _, hgs⟩, fun j hj => by rw [Nat.zero_add, cell_of_row wr _ _ _ _ _ HB.out]; exact HY.out j hj⟩, fun j _ => frozen_of_row wr _ _ _ _ HB.out⟩, hbw⟩

end Go.Proofs.Ytnkhjlpeeljelab
