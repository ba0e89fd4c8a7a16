/- The laws' comparison of two slices of the same numbers. -/
import Derived.Test.YtnkhjlpeeljelabBools0
import Derived.Test.YtnkhjlpeeljelabSmall
import Derived.Test.YtnkhjlpeeljelabChecked
import Derived.Deep.LoopGhost
import Derived.BigQuiet
import Derived.Deep.QuietTactic
import Derived.Deep.RegionWith
import Derived.OwnWalk
import Derived.Laws.MakeOwn
import Derived.IntWalk
namespace Go.Proofs.Ytnkhjlpeeljelab
open Go.RowKit

set_option maxRecDepth 100000 in
set_option maxHeartbeats 1000000 in
theorem sameBools2_any (n : Nat) (z : Nat → Bool) (pa pb : Option Addr) (ca cb ga oa gb ob : Nat) (w : World) (hn : n ≤ maxLen)
    (ha : FlatAt w 0 w.heap.size pa ga oa n (fun j => .bool (z j))) (hb : FlatAt w 0 w.heap.size pb gb ob n (fun j => .bool (z j))) :
    Calls Try.prog 27 #[.slice pa n ca, .slice pb n cb] w fun e w' => e = .returned (.bool true) ∧ Below w.heap.size w w' := by
  unfold maxLen at hn
  have HA := Lib.hid ha
  have HB := Lib.hid hb
  clear ha hb
  go_enter Try.func27, Try.ntmps27
  go_wp2_with fail
  go_loopw [5] (fun v wr => ∃ k : Nat, k ≤ n ∧ v = .int .i64 (k : Int) ∧ Below w.heap.size w wr) (fun v _ => n - (intOf v).toNat)
  case atStart => exact ⟨0, by omega, rfl, Below.refl _ _⟩
  case round =>
    obtain ⟨k, hk, rfl, hbw⟩ := hrel
    by_cases hkn : k < n
    · obtain ⟨rfl, -, hga⟩ := HA.out.1 (by omega)
      obtain ⟨rfl, -, hgb⟩ := HB.out.1 (by omega)
      have a0 := (hbw.cell (p := ⟨ga, oa + k, none⟩) hga).trans (HA.out.bool k (by omega))
      have b0 := (hbw.cell (p := ⟨gb, ob + k, none⟩) hgb).trans (HB.out.bool k (by omega))
      obtain ⟨x0, hx0⟩ : ∃ x, x = z k := ⟨_, rfl⟩
      rw [← hx0] at a0 b0
      clear hx0
      have hk0 : (0 : Int) ≤ (k : Int) := by omega
      have hkl : (k : Int) < (n : Int) := by omega
      cases x0
      all_goals
        go_wp2_with fail
        go_quiet (fail)
        go_wp2_with fail
        go_roundw
        case rel => exact ⟨k + 1, by omega, by congr 1, below_drewN' hbw _⟩
        case measure => simp only [intOf]; omega
    · obtain rfl : k = n := by omega
      go_wp2_with fail
      go_ret
      exact ⟨rfl, hbw⟩

/-! In values. -/
theorem sameBools2_v (n : Nat) (hn : n ≤ maxLen) (z : Nat → Bool) (va vb : Value) (w : World) (ha : RdB w va n z) (hb : RdB w vb n z) :
    Calls Try.prog 27 #[va, vb] w fun e w' => e = .returned (.bool true) ∧ Below w.heap.size w w' := by
  obtain ⟨pa, ca, ga, oa, rfl, -, ha⟩ := ha
  obtain ⟨pb, cb, gb, ob, rfl, -, hb⟩ := hb
  exact sameBools2_any n z pa pb ca cb ga oa gb ob w hn ha hb

end Go.Proofs.Ytnkhjlpeeljelab
