/- What the model's l01Ten returns: the ten digits. -/
import Derived.Test.YtopkdkehkdhmgabDoorSmall
import Derived.Test.YtopkdkehkdhmgabDoorTenPlain
import Derived.Test.YtopkdkehkdhmgabDoorChecked
import Derived.Laws.IdiomStrings
import Derived.OwnWalk
namespace Go.Proofs.YtopkdkehkdhmgabDoor
open Go.RowKit

theorem infoByte : (Tryd.prog.info? 5).map (fun i => (i.zero, i.size, i.bytes)) = some (some (.int .u8 0), 1, 1) := by kernel_rfl

set_option maxHeartbeats 1000000 in
theorem ten_any (N : Nat) (hN : N < 10 ^ 10) (w : World) :
    Calls Tryd.prog 45 #[.int .i64 N] w fun e w' => e = .returned (.string ⟨(digs N).toArray⟩) ∧ Below w.heap.size w w' := by
  obtain ⟨i0, hi, hz0, hz1, hz2⟩ := info_parts infoByte
  have hmk : ∀ W : World, (Instr.makeSlice 22 (.int .i64 10) (.int .i64 10)).run Tryd.prog W = .ok (.slice (some ⟨W.heap.size, 0, none⟩) 10 10) (W.alloc (.cells #[.int .u8 0, .int .u8 0, .int .u8 0, .int .u8 0, .int .u8 0, .int .u8 0, .int .u8 0, .int .u8 0, .int .u8 0, .int .u8 0] 5)) := fun _ => by kernel_rfl
  have hN' : N ≤ 9999999999 := by omega
  clear hN
  go_enter Tryd.func45, Tryd.ntmps45
  go_wp2
  go_loopw [0, 4] (fun n i wr => ∃ (i' : Int) (v : Nat), -1 ≤ i' ∧ i' ≤ 9 ∧ n = .int .i64 v ∧ v ≤ 9999999999 ∧ Hid (v = N / 10 ^ (9 - i').toNat) ∧ i = .int .i64 i' ∧ wr.ownsRow w.heap.size 5 1 (.slice (some ⟨w.heap.size, 0, none⟩) 10 10) 10 (part N (i' + 1).toNat) ∧ Below w.heap.size w wr)
    (fun _ i _ => (intOf i + 1).toNat)
  case atStart =>
    refine ⟨9, N, by omega, by omega, rfl, hN', Lib.hid (by simp), rfl, ?_, (Below.refl _ _).alloc (Nat.le_refl _) _⟩
    exact ⟨rfl, .inr ⟨w.heap.size, 10, _, rfl, Nat.le_refl _, heap_alloc_new w _, Nat.le_refl _, by decide, rfl, rfl⟩⟩
  case round =>
    obtain ⟨i', v, h1, h2, rfl, h3, hv, rfl, hown, hb⟩ := hrel
    by_cases hp : 0 ≤ i'
    · obtain ⟨m, rfl⟩ := Int.eq_ofNat_of_zero_le hp
      obtain ⟨u, hcell⟩ : ∃ u, wr.cell? ⟨w.heap.size, m, none⟩ = some u := by
        rw [hown.cellAt m (by omega)]
        exact ⟨_, List.getElem?_eq_getElem (by simp [part]; omega)⟩
      have hfz : wr.frozen? ⟨w.heap.size, m, none⟩ = false := hown.frozenAt m
      go_wp2
      go_roundw
      case rel =>
        have hst := hown.stored m (.int .u8 (48 + (v : Int) % 10))
        have hv := hv.out
        have e1 : ((m : Int) + 1).toNat = m + 1 := by omega
        have e2 : (9 - (m : Int)).toNat = 9 - m := by omega
        have e3 : ((m : Int) - 1 + 1).toNat = m := by omega
        have e4 : (9 - ((m : Int) - 1)).toNat = 9 - m + 1 := by omega
        have hs := part_step N m (by omega)
        rw [← e2, ← hv] at hs
        rw [e1] at hst
        refine ⟨(m : Int) - 1, v / 10, by omega, by omega, by go_num, by omega, Lib.hid ?_, rfl, ?_, ?_⟩
        · rw [e4, hv, e2, div_step]
        · rw [e3, ← hs]
          exact hst.1
        · exact hb.setCell (Nat.le_refl _) _
      case measure => simp [intOf] <;> omega
    · obtain rfl : i' = -1 := by omega
      have hown' : wr.ownsRow w.heap.size 5 1 (.slice (some ⟨w.heap.size, 0, none⟩) 10 10) 10 ((digs N).map fun b => Value.int .u8 (b.toNat : Int)) := by
        rw [← part_end]; exact hown
      have hcv := run_convert_bytes_back (P := Tryd.prog) wr 22 9 5 ⟨w.heap.size, 0, none⟩ 10 (digs N) Tryd.underlying22 Tryd.underlying5 Tryd.underlying9 (fun j hj => hown'.cells (g := w.heap.size) rfl j _ (by simp [hj]))
      rw [digs_length] at hcv
      clear hown hown' hp
      go_wp2
      go_ret
      exact ⟨rfl, hb⟩

end Go.Proofs.YtopkdkehkdhmgabDoor
