/- The laws' own functions over slices of numbers: comparison of equal ones. -/
import Derived.Test.YtnkhjlpeeljelaaOwnV
import Derived.Test.YtnkhjlpeeljelaaSmall
import Derived.Test.YtnkhjlpeeljelaaChecked
import Derived.Deep.LoopGhost
import Derived.BigQuiet
import Derived.Deep.QuietTactic
import Derived.Deep.RegionWith
import Derived.OwnWalk
import Derived.Laws.MakeOwn
import Derived.IntWalk
namespace Go.Proofs.Ytnkhjlpeeljelaa
open Go.RowKit

theorem infoInt : (Try.prog.info? 3).map (fun i => (i.zero, i.size, i.bytes)) = some (some (.int .i64 0), 1, 8) := by kernel_rfl

set_option maxRecDepth 100000 in
set_option maxHeartbeats 1000000 in
theorem eqIntS_any (n : Nat) (z : Nat → Int) (pa pb : Option Addr) (ca cb ga oa gb ob : Nat) (w : World) (hn : n ≤ maxLen)
    (ha : FlatAt w 0 w.heap.size pa ga oa n (fun j => .int .i64 (z j))) (hb : FlatAt w 0 w.heap.size pb gb ob n (fun j => .int .i64 (z j))) :
    Calls Try.prog 27 #[.slice pa n ca, .slice pb n cb] w fun e w' => e = .returned (.bool true) ∧ Below w.heap.size w w' := by
  unfold maxLen at hn
  have HA := Lib.hid ha
  have HB := Lib.hid hb
  clear ha hb
  go_enter Try.func27, Try.ntmps27
  go_wp2_with fail
  go_loopw [5] (fun v wr => ∃ k : Nat, k ≤ n ∧ v = .int .i64 (k : Int) ∧ Below w.heap.size w wr) (fun v _ => n - (intOf v).toNat)
  case atStart => exact ⟨0, by omega, rfl, Below.refl _ _⟩
  case round =>
    obtain ⟨k, hk, rfl, hbw⟩ := hrel
    by_cases hkn : k < n
    · obtain ⟨rfl, -, hga⟩ := HA.out.1 (by omega)
      obtain ⟨rfl, -, hgb⟩ := HB.out.1 (by omega)
      have a0 := (hbw.cell (p := ⟨ga, oa + k, none⟩) hga).trans (HA.out.int k (by omega))
      have b0 := (hbw.cell (p := ⟨gb, ob + k, none⟩) hgb).trans (HB.out.int k (by omega))
      obtain ⟨x0, hx0⟩ : ∃ x, x = z k := ⟨_, rfl⟩
      rw [← hx0] at a0 b0
      clear hx0
      have hk0 : (0 : Int) ≤ (k : Int) := by omega
      have hkl : (k : Int) < (n : Int) := by omega
      go_wp2_with fail
      go_quiet (fail)
      go_wp2_with fail
      go_roundw
      case rel => exact ⟨k + 1, by omega, by congr 1, below_drewN' hbw _⟩
      case measure => simp only [intOf]; omega
    · obtain rfl : k = n := by omega
      go_wp2_with fail
      go_ret
      exact ⟨rfl, hbw⟩

/-! In values. -/
theorem eqIntS_v (n : Nat) (hn : n ≤ 1048576) (z : Nat → Int) (va vb : Value) (w : World) (ha : Rd w va n n z) (hb : Rd w vb n n z) :
    Calls Try.prog 27 #[va, vb] w fun e w' => e = .returned (.bool true) ∧ Below w.heap.size w w' := by
  obtain ⟨pa, ca, ga, oa, rfl, -, ha⟩ := ha
  obtain ⟨pb, cb, gb, ob, rfl, -, hb⟩ := hb
  exact eqIntS_any n z pa pb ca cb ga oa gb ob w (by unfold maxLen; omega) ha hb

end Go.Proofs.Ytnkhjlpeeljelaa
