/- The laws' own functions over slices of truth values: readings, copy, comparison of equal ones, marks. -/
import Derived.Test.YtnkhjlpeeljelaaOwnV
import Derived.Test.YtnkhjlpeeljelaaSmall
import Derived.Test.YtnkhjlpeeljelaaChecked
import Derived.Deep.LoopGhost
import Derived.Deep.Grids
import Derived.BigQuiet
import Derived.Deep.QuietTactic
import Derived.Deep.RegionWith
import Derived.OwnWalk
import Derived.Laws.MakeOwn
import Derived.IntWalk
import Derived.OpenShut
namespace Go.Proofs.Ytnkhjlpeeljelaa
open Go.RowKit

theorem FlatAt.bool {w : World} {lo hh : Nat} {p : Option Addr} {g o m : Nat} {z : Nat → Bool} (h : FlatAt w lo hh p g o m (fun j => .bool (z j))) (j : Nat) (hj : j < m) : w.cell? ⟨g, o + j, none⟩ = some (.bool (z j)) := h.2 j hj

/-- v is a slice of n truth values z. -/
def RdB (w : World) (v : Value) (n : Nat) (z : Nat → Bool) : Prop :=
  ∃ p c g o, v = .slice p n c ∧ n ≤ c ∧ FlatAt w 0 w.heap.size p g o n (fun j => .bool (z j))
/-- The same, in the blocks lo .. hi, and the cells may be written. -/
def OwnB (w : World) (lo hi : Nat) (v : Value) (n : Nat) (z : Nat → Bool) : Prop :=
  ∃ p c g o, v = .slice p n c ∧ n ≤ c ∧ FlatAt w lo hi p g o n (fun j => .bool (z j)) ∧ FreeAt w g o n
section
variable {w w' : World} {lo hi lo' hi' n : Nat} {v : Value} {z z' : Nat → Bool}
theorem RdB.later (h : RdB w v n z) (hb : Below w.heap.size w w') : RdB w' v n z := by
  obtain ⟨p, c, g, o, h1, h2, h4⟩ := h
  exact ⟨p, c, g, o, h1, h2, (h4.below hb (Nat.le_refl _)).wide (Nat.le_refl _) hb.size⟩
theorem OwnB.rd (h : OwnB w lo hi v n z) (hh : hi ≤ w.heap.size) : RdB w v n z := by
  obtain ⟨p, c, g, o, h1, h2, h4, -⟩ := h
  exact ⟨p, c, g, o, h1, h2, h4.wide (Nat.zero_le _) hh⟩
theorem OwnB.below {B : Nat} (h : OwnB w lo hi v n z) (hb : Below B w w') (hB : hi ≤ B) : OwnB w' lo hi v n z := by
  obtain ⟨p, c, g, o, h1, h2, h4, h5⟩ := h
  exact ⟨p, c, g, o, h1, h2, h4.below hb hB, h5.below hb (fun hm => Nat.lt_of_lt_of_le (h4.1 hm).2.2 hB)⟩
theorem OwnB.touch {a b : Nat} (h : OwnB w lo hi v n z) (t : Touch a b w w') (hs : hi ≤ w.heap.size) (hd : hi ≤ a ∨ b ≤ lo) : OwnB w' lo hi v n z := by
  obtain ⟨p, c, g, o, h1, h2, h4, h5⟩ := h
  exact ⟨p, c, g, o, h1, h2, h4.touch t hs hd, h5.touch h4 t hs hd⟩
theorem OwnB.wide (h : OwnB w lo hi v n z) (h1 : lo' ≤ lo) (h2 : hi ≤ hi') : OwnB w lo' hi' v n z := by
  obtain ⟨p, c, g, o, a, b, d, e⟩ := h
  exact ⟨p, c, g, o, a, b, d.wide h1 h2, e⟩
theorem OwnB.congr (h : OwnB w lo hi v n z) (he : ∀ j, j < n → z j = z' j) : OwnB w lo hi v n z' := by
  obtain ⟨p, c, g, o, a, b, d, e⟩ := h
  exact ⟨p, c, g, o, a, b, d.congr (fun j hj => by rw [he j hj]), e⟩
end
/-- A row of truth values that came in. -/
theorem bools_openV {H : Type} {enc : TypeId × Value → H} {W : World} {base : Nat} {held : Bool} {p : Option Addr} {n c : Nat} {x : DataW H × List MemPlace}
    (h : ∃ fuel, DataW.trod enc Try.prog W base (fun _ => true) held fuel 36 (Value.slice p n c).cells.toList = some x) : ∃ z : Nat → Bool, n ≤ maxLen ∧ RdB W (.slice p n c) n z := by
  obtain ⟨fuel, hf⟩ := h
  rcases Go.Deep.open_bools Try.underlying36 Try.underlying4 (show Try.prog.cellsOf 4 = 1 by kernel_rfl) hf with ⟨hcs, -⟩ | ⟨a, len, cap', B, hcs, -, hl, hm, -, hcell⟩
  · simp [Value.cells] at hcs
    obtain ⟨rfl, rfl, rfl⟩ := hcs
    exact ⟨fun _ => false, by unfold maxLen; omega, none, 0, 0, 0, rfl, Nat.le_refl _, FlatAt.zero _ _ _ _ _ _ _⟩
  · simp [Value.cells] at hcs
    obtain ⟨rfl, rfl, rfl⟩ := hcs
    obtain ⟨b, off, spot⟩ := a
    by_cases h0 : n = 0
    · subst h0
      exact ⟨fun _ => false, by omega, _, _, 0, 0, rfl, hl, FlatAt.zero _ _ _ _ _ _ _⟩
    · have hq0 := hcell 0 (by omega)
      have hspot : spot = none := by simpa [Addr.add] using World.cell?_spot hq0
      subst hspot
      refine ⟨B, by omega, _, _, b, off, rfl, hl, fun _ => ⟨rfl, Nat.zero_le _, ?_⟩, fun j hj => ?_⟩
      · simp [Addr.add] at hq0
        rcases Nat.lt_or_ge b W.heap.size with h2 | h2
        · exact h2
        · unfold World.cell? at hq0
          rw [Array.getElem?_eq_none (by show _ ≤ b; omega)] at hq0
          simp at hq0
      · have hq := hcell j (by omega)
        rw [Go.WideShapes.add_plain] at hq
        exact hq

theorem infoBool : (Try.prog.info? 4).map (fun i => (i.zero, i.size, i.bytes)) = some (some (.bool false), 1, 1) := by kernel_rfl

set_option maxRecDepth 100000 in
set_option maxHeartbeats 1000000 in
theorem toBoolS_any (n : Nat) (hn : n ≤ 1048576) (z : Nat → Bool) (p : Option Addr) (c g o : Nat) (w : World) (h : FlatAt w 0 w.heap.size p g o n (fun j => .bool (z j))) :
    Calls Try.prog 25 #[.slice p n c] w fun e w' => ∃ p' c' g', e = .returned (.slice p' n c') ∧ n ≤ c' ∧ FlatAt w' w.heap.size w'.heap.size p' g' 0 n (fun j => .bool (z j)) ∧ FreeAt w' g' 0 n ∧ Below w.heap.size w w' := by
  obtain ⟨i0, hi, hz0, hz1, hz2⟩ := info_parts infoBool
  have hmk := fun W => run_make (P := Try.prog) W 36 4 i0 _ Try.underlying36 hi hz0 .i64 .i64 (n : Int) (n : Int) (by omega) (by omega) (by rw [hz2]; omega) (by omega)
  simp only [Int.toNat_natCast, hz1, Nat.mul_one] at hmk
  obtain ⟨C, hC⟩ : ∃ C, C = madeCells (Value.bool false).cells n := ⟨_, rfl⟩
  have hCs : C.size = n := by rw [hC]; exact size_madeCells _ _
  rw [← hC] at hmk
  have H := Lib.hid h
  have HC := Lib.hid hCs
  clear h hC hCs hz0 hz1 hz2
  go_enter Try.func25, Try.ntmps25
  go_wp2_with fail
  go_loopw [4] (fun v wr => ∃ (k : Nat) (cur : Array Value), k ≤ n ∧ v = .int .i64 (k : Int) ∧ wr.heap[w.heap.size]? = some (.cells cur 4 (0, 0)) ∧ cur.size = n ∧ Hid (∀ j, j < k → cur[j]? = some (.bool (z j))) ∧ Below w.heap.size w wr) (fun v _ => n - (intOf v).toNat)
  case atStart => exact ⟨0, C, by omega, rfl, heap_alloc_new _ _, HC.out, fun j hj => absurd hj (by omega), (Below.refl _ _).alloc (Nat.le_refl _) _⟩
  case round =>
    obtain ⟨k, cur, hk, rfl, hblk, hcs, HY, hbw⟩ := hrel
    by_cases hkn : k < n
    · obtain ⟨rfl, -, hg⟩ := H.out.1 (by omega)
      have a0 := (hbw.cell (p := ⟨g, o + k, none⟩) hg).trans (H.out.bool k (by omega))
      have hk0 : (0 : Int) ≤ (k : Int) := by omega
      have hkl : (k : Int) < (n : Int) := by omega
      obtain ⟨u0, hu0⟩ : ∃ u, cur[k]? = some u := ⟨_, Array.getElem?_eq_getElem (by omega)⟩
      have b0 := (cell_of_row wr w.heap.size k cur 4 (0, 0) hblk).trans hu0
      have f0 := frozen_of_row wr w.heap.size k cur 4 hblk
      have HB := Lib.hid hblk
      clear hblk hu0
      go_wp2_with fail
      go_roundw
      case rel =>
        refine ⟨k + 1, _, by omega, by congr 1, blk_set HB.out _, by simp [hcs], ?_, hbw.setCell (Nat.le_refl _) _⟩
        intro j hj
        simp only [Array.getElem?_setIfInBounds, Array.size_setIfInBounds]
        by_cases e0 : k = j
        · subst e0; simp [hcs]; try omega
        rw [if_neg e0]
        exact HY.out j (by omega)
      case measure => simp only [intOf]; omega
    · obtain rfl : k = n := by omega
      have hgs : w.heap.size < wr.heap.size := (Array.getElem?_eq_some_iff.1 hblk).1
      have HB := Lib.hid hblk
      clear hblk
      go_wp2_with fail
      go_ret
      exact ⟨_, _, w.heap.size, rfl, Nat.le_refl _, ⟨fun _ => ⟨rfl, Nat.le_refl _, hgs⟩, fun j hj => by rw [Nat.zero_add, cell_of_row wr _ _ _ _ _ HB.out]; exact HY.out j hj⟩, fun j _ => frozen_of_row wr _ _ _ _ HB.out, hbw⟩

theorem toBoolS_v (n : Nat) (hn : n ≤ 1048576) (z : Nat → Bool) (v : Value) (w : World) (h : RdB w v n z) :
    Calls Try.prog 25 #[v] w fun e w' => ∃ v', e = .returned v' ∧ OwnB w' w.heap.size w'.heap.size v' n z ∧ Below w.heap.size w w' := by
  obtain ⟨p, c, g, o, rfl, -, h⟩ := h
  refine (toBoolS_any n hn z p c g o w h).mono ?_
  rintro e w' ⟨p', c', g', he, hc, h1, h2, hb⟩
  exact ⟨_, he, ⟨p', c', g', 0, rfl, hc, h1, h2⟩, hb⟩

set_option maxRecDepth 100000 in
set_option maxHeartbeats 1000000 in
theorem eqBoolS_any (n : Nat) (z : Nat → Bool) (pa pb : Option Addr) (ca cb ga oa gb ob : Nat) (w : World) (hn : n ≤ maxLen)
    (ha : FlatAt w 0 w.heap.size pa ga oa n (fun j => .bool (z j))) (hb : FlatAt w 0 w.heap.size pb gb ob n (fun j => .bool (z j))) :
    Calls Try.prog 28 #[.slice pa n ca, .slice pb n cb] w fun e w' => e = .returned (.bool true) ∧ Below w.heap.size w w' := by
  unfold maxLen at hn
  have HA := Lib.hid ha
  have HB := Lib.hid hb
  clear ha hb
  go_enter Try.func28, Try.ntmps28
  go_wp2_with fail
  go_loopw [5] (fun v wr => ∃ k : Nat, k ≤ n ∧ v = .int .i64 (k : Int) ∧ Below w.heap.size w wr) (fun v _ => n - (intOf v).toNat)
  case atStart => exact ⟨0, by omega, rfl, Below.refl _ _⟩
  case round =>
    obtain ⟨k, hk, rfl, hbw⟩ := hrel
    by_cases hkn : k < n
    · obtain ⟨rfl, -, hga⟩ := HA.out.1 (by omega)
      obtain ⟨rfl, -, hgb⟩ := HB.out.1 (by omega)
      have a0 := (hbw.cell (p := ⟨ga, oa + k, none⟩) hga).trans (HA.out.bool k (by omega))
      have b0 := (hbw.cell (p := ⟨gb, ob + k, none⟩) hgb).trans (HB.out.bool k (by omega))
      obtain ⟨x0, hx0⟩ : ∃ x, x = z k := ⟨_, rfl⟩
      rw [← hx0] at a0 b0
      clear hx0
      have hk0 : (0 : Int) ≤ (k : Int) := by omega
      have hkl : (k : Int) < (n : Int) := by omega
      go_wp2_with fail
      go_quiet (fail)
      go_wp2_with fail
      go_roundw
      case rel => exact ⟨k + 1, by omega, by congr 1, below_drewN' hbw _⟩
      case measure => simp only [intOf]; omega
    · obtain rfl : k = n := by omega
      go_wp2_with fail
      go_ret
      exact ⟨rfl, hbw⟩

/-! In values. -/
theorem eqBoolS_v (n : Nat) (hn : n ≤ 1048576) (z : Nat → Bool) (va vb : Value) (w : World) (ha : RdB w va n z) (hb : RdB w vb n z) :
    Calls Try.prog 28 #[va, vb] w fun e w' => e = .returned (.bool true) ∧ Below w.heap.size w w' := by
  obtain ⟨pa, ca, ga, oa, rfl, -, ha⟩ := ha
  obtain ⟨pb, cb, gb, ob, rfl, -, hb⟩ := hb
  exact eqBoolS_any n z pa pb ca cb ga oa gb ob w (by unfold maxLen; omega) ha hb

end Go.Proofs.Ytnkhjlpeeljelaa
