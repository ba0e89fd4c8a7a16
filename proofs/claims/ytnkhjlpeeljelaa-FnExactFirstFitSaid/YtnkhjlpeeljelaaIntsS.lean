/- The laws' own copy of a slice of numbers (never nil). -/
import Derived.Test.YtnkhjlpeeljelaaOwnV
import Derived.Test.YtnkhjlpeeljelaaSmall
import Derived.Test.YtnkhjlpeeljelaaChecked
import Derived.Deep.LoopGhost
import Derived.OwnWalk
import Derived.Laws.MakeOwn
import Derived.IntWalk
namespace Go.Proofs.Ytnkhjlpeeljelaa
open Go.RowKit

theorem infoIntT : (Try.prog.info? 3).map (fun i => (i.zero, i.size, i.bytes)) = some (some (.int .i64 0), 1, 8) := by kernel_rfl

set_option maxRecDepth 100000 in
set_option maxHeartbeats 1000000 in
theorem toIntS_sany (n : Nat) (hn : n ≤ 1048576) (z : Nat → Int) (p : Option Addr) (c g o : Nat) (w : World) (h : FlatAt w 0 w.heap.size p g o n (fun j => .int .i64 (z j))) :
    Calls Try.prog 24 #[.slice p n c] w fun e w' => ∃ (a' : Addr) (c' g' : Nat), e = .returned (.slice (some a') n c') ∧ n ≤ c' ∧ FlatAt w' w.heap.size w'.heap.size (some a') g' 0 n (fun j => .int .i64 (z j)) ∧ FreeAt w' g' 0 n ∧ Below w.heap.size w w' := by
  obtain ⟨i0, hi, hz0, hz1, hz2⟩ := info_parts infoIntT
  have hmk := fun W => run_make (P := Try.prog) W 35 3 i0 _ Try.underlying35 hi hz0 .i64 .i64 (n : Int) (n : Int) (by omega) (by omega) (by rw [hz2]; omega) (by omega)
  simp only [Int.toNat_natCast, hz1, Nat.mul_one] at hmk
  obtain ⟨C, hC⟩ : ∃ C, C = madeCells (Value.int .i64 0).cells n := ⟨_, rfl⟩
  have hCs : C.size = n := by rw [hC]; exact size_madeCells _ _
  rw [← hC] at hmk
  have H := Lib.hid h
  have HC := Lib.hid hCs
  clear h hC hCs hz0 hz1 hz2
  go_enter Try.func24, Try.ntmps24
  go_wp2_with fail
  go_loopw [4] (fun v wr => ∃ (k : Nat) (cur : Array Value), k ≤ n ∧ v = .int .i64 (k : Int) ∧ wr.heap[w.heap.size]? = some (.cells cur 3 (0, 0)) ∧ cur.size = n ∧ Hid (∀ j, j < k → cur[j]? = some (.int .i64 (z j))) ∧ Below w.heap.size w wr) (fun v _ => n - (intOf v).toNat)
  case atStart => exact ⟨0, C, by omega, rfl, heap_alloc_new _ _, HC.out, fun j hj => absurd hj (by omega), (Below.refl _ _).alloc (Nat.le_refl _) _⟩
  case round =>
    obtain ⟨k, cur, hk, rfl, hblk, hcs, HY, hbw⟩ := hrel
    by_cases hkn : k < n
    · obtain ⟨rfl, -, hg⟩ := H.out.1 (by omega)
      have a0 := (hbw.cell (p := ⟨g, o + k, none⟩) hg).trans (H.out.int k (by omega))
      have hk0 : (0 : Int) ≤ (k : Int) := by omega
      have hkl : (k : Int) < (n : Int) := by omega
      obtain ⟨u0, hu0⟩ : ∃ u, cur[k]? = some u := ⟨_, Array.getElem?_eq_getElem (by omega)⟩
      have b0 := (cell_of_row wr w.heap.size k cur 3 (0, 0) hblk).trans hu0
      have f0 := frozen_of_row wr w.heap.size k cur 3 hblk
      have HB := Lib.hid hblk
      clear hblk hu0
      go_wp2_with fail
      go_roundw
      case rel =>
        refine ⟨k + 1, _, by omega, by congr 1, blk_set HB.out _, by simp [hcs], ?_, hbw.setCell (Nat.le_refl _) _⟩
        intro j hj
        simp only [Array.getElem?_setIfInBounds, Array.size_setIfInBounds]
        by_cases e0 : k = j
        · subst e0; simp [hcs]; try omega
        rw [if_neg e0]
        exact HY.out j (by omega)
      case measure => simp only [intOf]; omega
    · obtain rfl : k = n := by omega
      have hgs : w.heap.size < wr.heap.size := (Array.getElem?_eq_some_iff.1 hblk).1
      have HB := Lib.hid hblk
      clear hblk
      go_wp2_with fail
      go_ret
      exact ⟨_, _, w.heap.size, rfl, Nat.le_refl _, ⟨fun _ => ⟨rfl, Nat.le_refl _, hgs⟩, fun j hj => by rw [Nat.zero_add, cell_of_row wr _ _ _ _ _ HB.out]; exact HY.out j hj⟩, fun j _ => frozen_of_row wr _ _ _ _ HB.out, hbw⟩

theorem toIntS_s (n : Nat) (hn : n ≤ 1048576) (z : Nat → Int) (v : Value) (w : World) (h : Rd w v n n z) :
    Calls Try.prog 24 #[v] w fun e w' => ∃ a' c', e = .returned (.slice (some a') n c') ∧ Own w' w.heap.size w'.heap.size (.slice (some a') n c') n n z ∧ Below w.heap.size w w' := by
  obtain ⟨p, c, g, o, rfl, -, h⟩ := h
  refine (toIntS_sany n hn z p c g o w h).mono ?_
  rintro e w' ⟨p', c', g', he, hc, h1, h2, hb⟩
  exact ⟨p', c', he, ⟨some p', c', g', 0, rfl, hc, h1, h2⟩, hb⟩

set_option maxRecDepth 100000 in
theorem szIntS_s (n : Nat) (v : Value) (l : Nat) (hl : l ≤ 1099511627776) (hn : n ≤ maxLen) (m : Nat) (z : Nat → Int) (w : World) (h : Rd w v n m z) :
    Calls Try.prog 84 #[v, .int .i64 (l : Int)] w fun e w' => e = .returned (.int .i64 (if n ≤ l then ((l - n : Nat) : Int) else -1)) ∧ w = w' := by
  unfold maxLen at hn
  obtain ⟨p, c, g, o, rfl, -, -⟩ := h
  by_cases h : n ≤ l
  · rw [if_pos h]
    have h1 : (l : Int) - (n : Int) = ((l - n : Nat) : Int) := by omega
    have H1 := Lib.hid h1
    have h2 : ¬ ((l : Int) - (n : Int) < 0) := by omega
    clear h1
    go_enter Try.func84, Try.ntmps84
    go_wp2
    go_ret
    refine ⟨?_, rfl⟩
    rw [← H1.out]
    rfl
  · rw [if_neg h]
    have h2 : (l : Int) - (n : Int) < 0 := by omega
    go_enter Try.func84, Try.ntmps84
    go_wp2
    go_ret
    exact ⟨rfl, rfl⟩

end Go.Proofs.Ytnkhjlpeeljelaa
