/- What the program's RepairTag returns, where the model's is not at hand. -/
import Derived.Test.YtjdmagackoddaaaDoorCandImpl
namespace Go.Proofs.YtjdmagackoddaaaDoor
open Go.RowKit
set_option linter.unusedVariables false

open Classical in
/-- What RepairTag returns for a text. -/
noncomputable def repOf (l : List UInt8) : Option (Nat × Nat × Nat) := if frm l then (match cands l with | [t] => some t | _ => none) else none
theorem repOf_yes {l : List UInt8} (h : frm l) {t : Nat × Nat × Nat} (k : cands l = [t]) : repOf l = some t := by unfold repOf; rw [if_pos h, k]
theorem repOf_no {l : List UInt8} (h : ¬ frm l) : repOf l = none := by unfold repOf; rw [if_neg h]
theorem repOf_many {l : List UInt8} (k : (cands l).length ≠ 1) : repOf l = none := by
  unfold repOf
  split
  · split
    · rename_i h; rw [h] at k; exact absurd rfl k
    · rfl
  · rfl

theorem row_form {w : World} {base : Nat} {e : TypeId} {size : Nat} {v : Value} {n : Nat} {xs : List Value} (h : w.ownsRow base e size v n xs) : ∃ p cap, v = .slice p n cap := by
  rcases h.2 with ⟨rfl, rfl⟩ | ⟨g, cap, cur, rfl, -⟩
  · exact ⟨_, _, rfl⟩
  · exact ⟨_, _, rfl⟩
/-- A row of one tag. -/
theorem row_one {w : World} {base : Nat} {e : TypeId} {v : Value} {t : Nat × Nat × Nat} (h : w.ownsRow base e 3 v 1 (tagCell t)) :
    ∃ g cap, v = .slice (some ⟨g, 0, none⟩) 1 cap ∧ base ≤ g ∧ g < w.heap.size ∧ w.cell? ⟨g, 0, none⟩ = some (.int .i64 (t.1 : Int)) ∧ w.cell? ⟨g, 1, none⟩ = some (.int .i64 (t.2.1 : Int)) ∧ w.cell? ⟨g, 2, none⟩ = some (.int .i64 (t.2.2 : Int)) := by
  obtain ⟨g, cap, rfl⟩ : ∃ g cap, v = .slice (some ⟨g, 0, none⟩) 1 cap := by
    rcases h.2 with ⟨_, h0⟩ | ⟨g, cap, cur, rfl, -⟩
    · exact absurd h0 (by decide)
    · exact ⟨_, _, rfl⟩
  have hl := h.lt g rfl
  exact ⟨g, cap, rfl, hl.1, hl.2, h.cellAt 0 (by decide), h.cellAt 1 (by decide), h.cellAt 2 (by decide)⟩

theorem sp_end {w w2 w1 : World} (k : Nat) {z : Value} (a b c : Value) (ok : Bool) (hk : k = w.heap.size) (qq : ∀ i, i < 3 → w2.cell? ⟨k, i, none⟩ = some z) (hb : Below w.heap.size w w2) (h1 : w1 = ((w2.setCell ⟨k, 0, none⟩ a).setCell ⟨k, 1, none⟩ b).setCell ⟨k, 2, none⟩ c) :
    Below w.heap.size w w1 := by
  subst h1 hk
  repeat (first | exact hb | refine Below.setCell ?_ (by simp) _)

set_option maxHeartbeats 1000000 in
theorem irep_any (s : ByteArray) (hsz : s.size ≤ 1048576) (w : World) (htab : Lib.TabIs Tryd.prog w "internal/strconv.uint64pow10" .u64 Lib.pow10Tab) (hR : ErrIs w "strconv.ErrRange") (hS : ErrIs w "strconv.ErrSyntax") :
    Calls Tryd.prog 11 #[.string s] w fun e w' => e = .returned (ptv (repOf s.data.toList)) ∧ Below w.heap.size w w' := by
  have bW : Below w.heap.size w (w.alloc (.cells #[.int .i64 0, .int .i64 0, .int .i64 0] 29)) := (Below.refl _ _).alloc (Nat.le_refl _) _
  have hcon := Lib.hid (icand_any s hsz _ (Lib.tabBelow_of_tabIs htab _ bW) (hR.on gRng bW) (hS.on gSyn bW))
  clear htab hR hS bW
  go_enter Tryd.func11, Tryd.ntmps11
  go_wp2_with fail
  refine (hcon.out).mono ?_
  rintro e w1 ⟨v, n, xs, ok, rfl, hown, hb1, hcase⟩
  obtain ⟨hc1, hf1⟩ := bcell hb1
  have s1 : w.heap.size < w1.heap.size := by have := hb1.size; simp at this; omega
  have b1 : Below w.heap.size w w1 := ((Below.refl _ _).alloc (Nat.le_refl _) _).trans (hb1.mono (by simp))
  have qq : ∀ i, i < 3 → w1.cell? ⟨w.heap.size, i, none⟩ = some (.int .i64 0) := fun i hi => (hc1 _ _ (by simp)).trans (new_cell w #[.int .i64 0, .int .i64 0, .int .i64 0] _ i _ (by rcases i with _ | _ | _ | i <;> first | rfl | omega))
  rcases hcase with ⟨hf, rfl, rfl, rfl⟩ | ⟨hf, rfl, rfl, rfl⟩
  · by_cases h1 : (cands s.data.toList).length = 1
    · obtain ⟨t, ht⟩ := List.length_eq_one_iff.1 h1
      have HREP := Lib.hid (repOf_yes hf ht)
      rw [ht] at hown
      simp only [List.length_singleton, List.flatMap_singleton] at hown
      clear h1 ht hf
      obtain ⟨g, cap, rfl, hg0, hg1, q0, q1, q2⟩ := row_one hown
      obtain ⟨z0, z1, z2⟩ := three_cells (w := w1) (.int .i64 (t.1 : Int)) (.int .i64 (t.2.1 : Int)) (.int .i64 (t.2.2 : Int)) (qq 0 (by omega)) (qq 1 (by omega)) (qq 2 (by omega))
      go_wp2
      refine bodyPost_ret (v := .tuple #[.agg #[.int .i64 (t.1 : Int), .int .i64 (t.2.1 : Int), .int .i64 (t.2.2 : Int)], .bool true]) (by simp [results, Tryd.results11, go_sem, *]) rfl ⟨by rw [HREP.out]; rfl, ?_⟩
      exact sp_end (w2 := w1) _ _ _ _ false rfl qq b1 rfl
    · have HREP := Lib.hid (repOf_many h1)
      have hn1 : (((cands s.data.toList).length : Int) == 1) = false := by rw [beq_eq_false_iff_ne]; omega
      have hn2 : decide (((cands s.data.toList).length : Int) = 1) = false := decide_eq_false (by omega)
      obtain ⟨n, hn⟩ : ∃ n, n = (cands s.data.toList).length := ⟨_, rfl⟩
      rw [← hn] at hn1 hn2 hown h1
      obtain ⟨p, cap, rfl⟩ := row_form hown
      obtain ⟨z0, z1, z2⟩ := three_cells (w := w1) (.int .i64 0) (.int .i64 0) (.int .i64 0) (qq 0 (by omega)) (qq 1 (by omega)) (qq 2 (by omega))
      clear hown hn hf
      go_wp2
      refine bodyPost_ret (v := .tuple #[.agg #[.int .i64 0, .int .i64 0, .int .i64 0], .bool false]) (by simp [results, Tryd.results11, go_sem, *]) rfl ⟨by rw [HREP.out]; rfl, ?_⟩
      exact sp_end (w2 := w1) _ _ _ _ false rfl qq b1 rfl
  · have HREP := Lib.hid (repOf_no hf)
    obtain ⟨p, cap, rfl⟩ := row_form hown
    obtain ⟨z0, z1, z2⟩ := three_cells (w := w1) (.int .i64 0) (.int .i64 0) (.int .i64 0) (qq 0 (by omega)) (qq 1 (by omega)) (qq 2 (by omega))
    clear hown hf
    go_wp2
    refine bodyPost_ret (v := .tuple #[.agg #[.int .i64 0, .int .i64 0, .int .i64 0], .bool false]) (by simp [results, Tryd.results11, go_sem, *]) rfl ⟨by rw [HREP.out]; rfl, ?_⟩
    exact sp_end (w2 := w1) _ _ _ _ false rfl qq b1 rfl

end Go.Proofs.YtjdmagackoddaaaDoor
