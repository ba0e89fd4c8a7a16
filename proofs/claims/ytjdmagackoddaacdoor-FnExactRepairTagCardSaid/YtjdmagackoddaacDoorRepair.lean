/- What both RepairTags return. -/
import Derived.Test.YtjdmagackoddaacDoorCandImpl
import Derived.Test.YtjdmagackoddaacDoorParseTagSpec
namespace Go.Proofs.YtjdmagackoddaacDoor
open Go.RowKit

open Classical in
/-- What RepairTag returns for a text. -/
noncomputable def repOf (l : List UInt8) : Option (Nat × Nat × Nat) := if frm l then (match cands l with | [t] => some t | _ => none) else none
theorem repOf_yes {l : List UInt8} (h : frm l) {t : Nat × Nat × Nat} (k : cands l = [t]) : repOf l = some t := by unfold repOf; rw [if_pos h, k]
theorem repOf_no {l : List UInt8} (h : ¬ frm l) : repOf l = none := by unfold repOf; rw [if_neg h]
theorem repOf_many {l : List UInt8} (k : (cands l).length ≠ 1) : repOf l = none := by
  unfold repOf
  split
  · split
    · rename_i h; rw [h] at k; exact absurd rfl k
    · rfl
  · rfl

set_option maxHeartbeats 1000000 in
theorem srep_any (s : ByteArray) (hsz : s.size ≤ 1048576) (w : World) :
    Calls Tryd.prog 15 #[.string s] w fun e w' => e = .returned (ptv (repOf s.data.toList)) ∧ Below w.heap.size w w' := by
  go_enter Tryd.func15, Tryd.ntmps15
  go_wp2_with fail
  refine (scand_any s hsz _).mono ?_
  rintro e w1 ⟨v, n, xs, ok, rfl, hown, hb1, hcase⟩
  obtain ⟨hc1, hf1⟩ := bcell hb1
  have s1 : w.heap.size < w1.heap.size := by have := hb1.size; simp at this; omega
  have b1 : Below w.heap.size w w1 := ((Below.refl _ _).alloc (Nat.le_refl _) _).trans (hb1.mono (by simp))
  have qq : ∀ i, i < 3 → w1.cell? ⟨w.heap.size, i, none⟩ = some (.int .i64 0) := fun i hi => (hc1 _ _ (by simp)).trans (new_cell w #[.int .i64 0, .int .i64 0, .int .i64 0] _ i _ (by rcases i with _ | _ | _ | i <;> first | rfl | omega))
  rcases hcase with ⟨hf, rfl, rfl, rfl⟩ | ⟨hf, rfl, rfl, rfl⟩
  · by_cases h1 : (cands s.data.toList).length = 1
    · obtain ⟨t, ht⟩ := List.length_eq_one_iff.1 h1
      have HREP := Lib.hid (repOf_yes hf ht)
      rw [ht] at hown
      simp only [List.length_singleton, List.flatMap_singleton] at hown
      clear h1 ht hf
      obtain ⟨g, cap, rfl, hg0, hg1, q0, q1, q2⟩ := row_one hown
      obtain ⟨z0, z1, z2⟩ := three_cells (w := w1) (.int .i64 (t.1 : Int)) (.int .i64 (t.2.1 : Int)) (.int .i64 (t.2.2 : Int)) (qq 0 (by omega)) (qq 1 (by omega)) (qq 2 (by omega))
      go_wp2
      refine bodyPost_ret (v := .tuple #[.agg #[.int .i64 (t.1 : Int), .int .i64 (t.2.1 : Int), .int .i64 (t.2.2 : Int)], .bool true]) (by simp [results, Tryd.results15, go_sem, *]) rfl ⟨by rw [HREP.out]; rfl, ?_⟩
      exact sp_end (w2 := w1) _ _ _ _ false rfl qq b1 rfl
    · have HREP := Lib.hid (repOf_many h1)
      have hn1 : (((cands s.data.toList).length : Int) == 1) = false := by rw [beq_eq_false_iff_ne]; omega
      have hn2 : decide (((cands s.data.toList).length : Int) = 1) = false := decide_eq_false (by omega)
      obtain ⟨n, hn⟩ : ∃ n, n = (cands s.data.toList).length := ⟨_, rfl⟩
      rw [← hn] at hn1 hn2 hown h1
      obtain ⟨p, cap, rfl⟩ := row_form hown
      obtain ⟨z0, z1, z2⟩ := three_cells (w := w1) (.int .i64 0) (.int .i64 0) (.int .i64 0) (qq 0 (by omega)) (qq 1 (by omega)) (qq 2 (by omega))
      clear hown hn hf
      go_wp2
      refine bodyPost_ret (v := .tuple #[.agg #[.int .i64 0, .int .i64 0, .int .i64 0], .bool false]) (by simp [results, Tryd.results15, go_sem, *]) rfl ⟨by rw [HREP.out]; rfl, ?_⟩
      exact sp_end (w2 := w1) _ _ _ _ false rfl qq b1 rfl
  · have HREP := Lib.hid (repOf_no hf)
    obtain ⟨p, cap, rfl⟩ := row_form hown
    obtain ⟨z0, z1, z2⟩ := three_cells (w := w1) (.int .i64 0) (.int .i64 0) (.int .i64 0) (qq 0 (by omega)) (qq 1 (by omega)) (qq 2 (by omega))
    clear hown hf
    go_wp2
    refine bodyPost_ret (v := .tuple #[.agg #[.int .i64 0, .int .i64 0, .int .i64 0], .bool false]) (by simp [results, Tryd.results15, go_sem, *]) rfl ⟨by rw [HREP.out]; rfl, ?_⟩
    exact sp_end (w2 := w1) _ _ _ _ false rfl qq b1 rfl

set_option maxHeartbeats 1000000 in
theorem irep_any (s : ByteArray) (hsz : s.size ≤ 1048576) (w : World) (htab : Lib.TabIs Tryd.prog w "internal/strconv.uint64pow10" .u64 Lib.pow10Tab) (hR : ErrIs w "strconv.ErrRange") (hS : ErrIs w "strconv.ErrSyntax") :
    Calls Tryd.prog 16 #[.string s] w fun e w' => e = .returned (ptv (repOf s.data.toList)) ∧ Below w.heap.size w w' := by
  have bW : Below w.heap.size w (w.alloc (.cells #[.int .i64 0, .int .i64 0, .int .i64 0] 23)) := (Below.refl _ _).alloc (Nat.le_refl _) _
  have hcon := Lib.hid (icand_any s hsz _ (Lib.tabBelow_of_tabIs htab _ bW) (hR.on gRng bW) (hS.on gSyn bW))
  clear htab hR hS bW
  go_enter Tryd.func16, Tryd.ntmps16
  go_wp2_with fail
  refine (hcon.out).mono ?_
  rintro e w1 ⟨v, n, xs, ok, rfl, hown, hb1, hcase⟩
  obtain ⟨hc1, hf1⟩ := bcell hb1
  have s1 : w.heap.size < w1.heap.size := by have := hb1.size; simp at this; omega
  have b1 : Below w.heap.size w w1 := ((Below.refl _ _).alloc (Nat.le_refl _) _).trans (hb1.mono (by simp))
  have qq : ∀ i, i < 3 → w1.cell? ⟨w.heap.size, i, none⟩ = some (.int .i64 0) := fun i hi => (hc1 _ _ (by simp)).trans (new_cell w #[.int .i64 0, .int .i64 0, .int .i64 0] _ i _ (by rcases i with _ | _ | _ | i <;> first | rfl | omega))
  rcases hcase with ⟨hf, rfl, rfl, rfl⟩ | ⟨hf, rfl, rfl, rfl⟩
  · by_cases h1 : (cands s.data.toList).length = 1
    · obtain ⟨t, ht⟩ := List.length_eq_one_iff.1 h1
      have HREP := Lib.hid (repOf_yes hf ht)
      rw [ht] at hown
      simp only [List.length_singleton, List.flatMap_singleton] at hown
      clear h1 ht hf
      obtain ⟨g, cap, rfl, hg0, hg1, q0, q1, q2⟩ := row_one hown
      obtain ⟨z0, z1, z2⟩ := three_cells (w := w1) (.int .i64 (t.1 : Int)) (.int .i64 (t.2.1 : Int)) (.int .i64 (t.2.2 : Int)) (qq 0 (by omega)) (qq 1 (by omega)) (qq 2 (by omega))
      go_wp2
      refine bodyPost_ret (v := .tuple #[.agg #[.int .i64 (t.1 : Int), .int .i64 (t.2.1 : Int), .int .i64 (t.2.2 : Int)], .bool true]) (by simp [results, Tryd.results16, go_sem, *]) rfl ⟨by rw [HREP.out]; rfl, ?_⟩
      exact sp_end (w2 := w1) _ _ _ _ false rfl qq b1 rfl
    · have HREP := Lib.hid (repOf_many h1)
      have hn1 : (((cands s.data.toList).length : Int) == 1) = false := by rw [beq_eq_false_iff_ne]; omega
      have hn2 : decide (((cands s.data.toList).length : Int) = 1) = false := decide_eq_false (by omega)
      obtain ⟨n, hn⟩ : ∃ n, n = (cands s.data.toList).length := ⟨_, rfl⟩
      rw [← hn] at hn1 hn2 hown h1
      obtain ⟨p, cap, rfl⟩ := row_form hown
      obtain ⟨z0, z1, z2⟩ := three_cells (w := w1) (.int .i64 0) (.int .i64 0) (.int .i64 0) (qq 0 (by omega)) (qq 1 (by omega)) (qq 2 (by omega))
      clear hown hn hf
      go_wp2
      refine bodyPost_ret (v := .tuple #[.agg #[.int .i64 0, .int .i64 0, .int .i64 0], .bool false]) (by simp [results, Tryd.results16, go_sem, *]) rfl ⟨by rw [HREP.out]; rfl, ?_⟩
      exact sp_end (w2 := w1) _ _ _ _ false rfl qq b1 rfl
  · have HREP := Lib.hid (repOf_no hf)
    obtain ⟨p, cap, rfl⟩ := row_form hown
    obtain ⟨z0, z1, z2⟩ := three_cells (w := w1) (.int .i64 0) (.int .i64 0) (.int .i64 0) (qq 0 (by omega)) (qq 1 (by omega)) (qq 2 (by omega))
    clear hown hf
    go_wp2
    refine bodyPost_ret (v := .tuple #[.agg #[.int .i64 0, .int .i64 0, .int .i64 0], .bool false]) (by simp [results, Tryd.results16, go_sem, *]) rfl ⟨by rw [HREP.out]; rfl, ?_⟩
    exact sp_end (w2 := w1) _ _ _ _ false rfl qq b1 rfl

end Go.Proofs.YtjdmagackoddaacDoor
