/- The laws' own functions over rows of Item: held, apart. -/
import Derived.Test.YtobcgidakbbhpabFlat
import Derived.Test.YtobcgidakbbhpabSmall
import Derived.Test.YtobcgidakbbhpabChecked
import Derived.Deep.LoopGhost
import Derived.BigQuiet
import Derived.Deep.QuietTactic
import Derived.Deep.RegionWith
import Derived.OwnWalk
import Derived.Laws.MakeOwn
import Derived.IntWalk
import Derived.Test.YtobcgidakbbhpabRowItem
namespace Go.Proofs.Ytobcgidakbbhpab
open Go.RowKit

set_option maxRecDepth 100000 in
set_option maxHeartbeats 1000000 in
theorem heldItemS_any (k0 n : Nat) (hn : n ≤ 1048576) (hk9 : k0 ≤ 1099511627776) (p : Option Addr) (c g o : Nat) (w : World) (h : FlatAt w 0 w.heap.size p g o (n * 3) (fun j => .int .i64 ((k0 + j : Nat) : Int))) :
    Calls Try.prog 85 #[.slice p n c, .int .i64 (k0 : Int)] w fun e w' => e = .returned (.int .i64 ((k0 + n * 3 : Nat) : Int)) ∧ Below w.heap.size w w' := by
  have H := Lib.hid h
  clear h
  have c3 := cellsItem
  go_enter Try.func85, Try.ntmps85
  go_wp2_with fail
  go_loopw [1, 5] (fun m v wr => ∃ k : Nat, k ≤ n ∧ v = .int .i64 (k : Int) ∧ m = .int .i64 ((k0 + k * 3 : Nat) : Int) ∧ Below w.heap.size w wr) (fun _ v _ => n - (intOf v).toNat)
  case atStart => exact ⟨0, by omega, rfl, by congr 1, Below.refl _ _⟩
  case round =>
    obtain ⟨k, hk, rfl, rfl, hbw⟩ := hrel
    by_cases hkn : k < n
    · obtain ⟨rfl, -, hg⟩ := H.out.1 (by omega)
      have a0 := (hbw.cell (p := ⟨g, o + k * 3, none⟩) hg).trans (H.out.int (k * 3) (by omega))
      have a1 := (hbw.cell (p := ⟨g, o + k * 3 + 1, none⟩) hg).trans (H.out.int (k * 3 + 1) (by omega))
      have a2 := (hbw.cell (p := ⟨g, o + k * 3 + 2, none⟩) hg).trans (H.out.int (k * 3 + 2) (by omega))
      obtain ⟨z, hz⟩ : ∃ z : Nat, z = k0 + k * 3 := ⟨_, rfl⟩
      rw [← hz] at a0 ⊢
      rw [show k0 + (k * 3 + 1) = z + 1 by omega] at a1
      rw [show k0 + (k * 3 + 2) = z + 1 + 1 by omega] at a2
      have hz9 : z ≤ 1099611627776 := by omega
      have HZ := Lib.hid hz
      clear hz
      have hk0 : (0 : Int) ≤ (k : Int) := by omega
      have hkl : (k : Int) < (n : Int) := by omega
      go_wp2_with fail
      go_roundw
      case rel => exact ⟨k + 1, by omega, by congr 1, by congr 1; have := HZ.out; omega, hbw⟩
      case measure => simp only [intOf]; omega
    · obtain rfl : k = n := by omega
      go_wp2_with fail
      go_ret
      exact ⟨rfl, hbw⟩

end Go.Proofs.Ytobcgidakbbhpab
