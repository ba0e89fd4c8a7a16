/- What the specification's ParseTag returns. -/
import Derived.Test.YtopkdkehkdhmgabDoorCandSpec
import Derived.Test.YtopkdkehkdhmgabDoorParseTagImpl
namespace Go.Proofs.YtopkdkehkdhmgabDoor
open Go.RowKit

theorem row_form {w : World} {base : Nat} {e : TypeId} {size : Nat} {v : Value} {n : Nat} {xs : List Value} (h : w.ownsRow base e size v n xs) : ∃ p cap, v = .slice p n cap := by
  rcases h.2 with ⟨rfl, rfl⟩ | ⟨g, cap, cur, rfl, -⟩
  · exact ⟨_, _, rfl⟩
  · exact ⟨_, _, rfl⟩
/-- A row of one tag. -/
theorem row_one {w : World} {base : Nat} {e : TypeId} {v : Value} {t : Nat × Nat × Nat} (h : w.ownsRow base e 3 v 1 (tagCell t)) :
    ∃ g cap, v = .slice (some ⟨g, 0, none⟩) 1 cap ∧ base ≤ g ∧ g < w.heap.size ∧ w.cell? ⟨g, 0, none⟩ = some (.int .i64 (t.1 : Int)) ∧ w.cell? ⟨g, 1, none⟩ = some (.int .i64 (t.2.1 : Int)) ∧ w.cell? ⟨g, 2, none⟩ = some (.int .i64 (t.2.2 : Int)) := by
  obtain ⟨g, cap, rfl⟩ : ∃ g cap, v = .slice (some ⟨g, 0, none⟩) 1 cap := by
    rcases h.2 with ⟨_, h0⟩ | ⟨g, cap, cur, rfl, -⟩
    · exact absurd h0 (by decide)
    · exact ⟨_, _, rfl⟩
  have hl := h.lt g rfl
  exact ⟨g, cap, rfl, hl.1, hl.2, h.cellAt 0 (by decide), h.cellAt 1 (by decide), h.cellAt 2 (by decide)⟩

theorem sp_end {w w2 w1 : World} (k : Nat) {z : Value} (a b c : Value) (ok : Bool) (hk : k = w.heap.size) (qq : ∀ i, i < 3 → w2.cell? ⟨k, i, none⟩ = some z) (hb : Below w.heap.size w w2) (h1 : w1 = ((w2.setCell ⟨k, 0, none⟩ a).setCell ⟨k, 1, none⟩ b).setCell ⟨k, 2, none⟩ c) :
    Below w.heap.size w w1 := by
  subst h1 hk
  repeat (first | exact hb | refine Below.setCell ?_ (by simp) _)

set_option maxHeartbeats 1000000 in
theorem sptag_any (s : ByteArray) (hsz : s.size ≤ 1048576) (w : World) :
    Calls Tryd.prog 28 #[.string s] w fun e w' => e = .returned (ptv (ptans s.data.toList)) ∧ Below w.heap.size w w' := by
  have hlen : s.data.toList.length = s.size := by simp
  cases hp : ptans s.data.toList
  · have HP := Lib.hid hp
    clear hp
    go_enter Tryd.func28, Tryd.ntmps28
    go_wp2_with fail
    refine (scand_any s hsz _).mono ?_
    rintro e w1 ⟨v, n, xs, ok, rfl, hown, hb1, hcase⟩
    obtain ⟨hc1, hf1⟩ := bcell hb1
    have s1 : w.heap.size < w1.heap.size := by have := hb1.size; simp at this; omega
    have b1 : Below w.heap.size w w1 := ((Below.refl _ _).alloc (Nat.le_refl _) _).trans (hb1.mono (by simp))
    have qq : ∀ i, i < 3 → w1.cell? ⟨w.heap.size, i, none⟩ = some (.int .i64 0) := fun i hi => (hc1 _ _ (by simp)).trans (new_cell w #[.int .i64 0, .int .i64 0, .int .i64 0] _ i _ (by rcases i with _ | _ | _ | i <;> first | rfl | omega))
    rcases hcase with ⟨hf, rfl, rfl, rfl⟩ | ⟨hf, rfl, rfl, rfl⟩
    · by_cases h1 : (cands s.data.toList).length = 1
      · obtain ⟨t, ht⟩ := List.length_eq_one_iff.1 h1
        have hne : ∀ a b c : Int, ftext a b c ≠ s.data.toList := by
          intro a b c e
          obtain ⟨N, _, _, _, _, _, k⟩ := tagOf_some hf.1 e
          have := HP.out
          unfold ptans at this
          rw [if_pos hf.1, k] at this
          exact absurd this (by simp)
        rw [ht] at hown
        simp only [List.length_singleton, List.flatMap_singleton] at hown
        clear h1 ht hf
        obtain ⟨g, cap, rfl, hg0, hg1, q0, q1, q2⟩ := row_one hown
        obtain ⟨l, hl⟩ : ∃ l, l = ftext (t.1 : Int) (t.2.1 : Int) (t.2.2 : Int) := ⟨_, rfl⟩
        have hcmp : (l == s.toList) = false := by rw [ByteArray.toList_eq]; exact beq_eq_false_iff_ne.2 (by rw [hl]; exact hne _ _ _)
        have HL := Lib.hid hl
        clear hl hne
        go_wp2_with fail
        refine (specFmt_any _ _ _ _).mono ?_
        rw [← HL.out]
        rintro e w2 ⟨rfl, hb2⟩
        obtain ⟨hc2, hf2⟩ := bcell hb2
        obtain ⟨z0, z1, z2⟩ := three_cells (w := w2) (.int .i64 0) (.int .i64 0) (.int .i64 0) ((hc2 _ _ s1).trans (qq 0 (by omega))) ((hc2 _ _ s1).trans (qq 1 (by omega))) ((hc2 _ _ s1).trans (qq 2 (by omega)))
        go_wp2
        refine bodyPost_ret (v := .tuple #[.agg #[.int .i64 0, .int .i64 0, .int .i64 0], .bool false]) (by simp [results, Tryd.results28, go_sem, *]) rfl ⟨rfl, ?_⟩
        exact sp_end (w2 := w2) _ _ _ _ false rfl (fun i hi => (hc2 _ _ s1).trans (qq i hi)) (b1.trans (hb2.mono (Nat.le_of_lt s1))) rfl
      · have hn1 : (((cands s.data.toList).length : Int) == 1) = false := by rw [beq_eq_false_iff_ne]; omega
        have hn2 : decide (((cands s.data.toList).length : Int) = 1) = false := decide_eq_false (by omega)
        obtain ⟨n, hn⟩ : ∃ n, n = (cands s.data.toList).length := ⟨_, rfl⟩
        rw [← hn] at hn1 hn2 hown h1
        obtain ⟨p, cap, rfl⟩ := row_form hown
        obtain ⟨z0, z1, z2⟩ := three_cells (w := w1) (.int .i64 0) (.int .i64 0) (.int .i64 0) (qq 0 (by omega)) (qq 1 (by omega)) (qq 2 (by omega))
        clear hown hn hf
        go_wp2
        refine bodyPost_ret (v := .tuple #[.agg #[.int .i64 0, .int .i64 0, .int .i64 0], .bool false]) (by simp [results, Tryd.results28, go_sem, *]) rfl ⟨rfl, ?_⟩
        exact sp_end (w2 := w1) _ _ _ _ false rfl qq b1 rfl
    · obtain ⟨p, cap, rfl⟩ := row_form hown
      obtain ⟨z0, z1, z2⟩ := three_cells (w := w1) (.int .i64 0) (.int .i64 0) (.int .i64 0) (qq 0 (by omega)) (qq 1 (by omega)) (qq 2 (by omega))
      clear hown hf
      go_wp2
      refine bodyPost_ret (v := .tuple #[.agg #[.int .i64 0, .int .i64 0, .int .i64 0], .bool false]) (by simp [results, Tryd.results28, go_sem, *]) rfl ⟨rfl, ?_⟩
      exact sp_end (w2 := w1) _ _ _ _ false rfl qq b1 rfl
  · rename_i t
    have h12 : s.data.toList.length = 12 := by
      unfold ptans at hp
      by_cases h : s.data.toList.length = 12
      · exact h
      · rw [if_neg h] at hp; exact absurd hp (by simp)
    have ht : tagOf s.data.toList = some t := by unfold ptans at hp; rw [if_pos h12] at hp; exact hp
    have HC := Lib.hid (cands_tag h12 ht)
    obtain ⟨N, -, -, -, hft⟩ := tagOf_says h12 ht
    have HF := Lib.hid hft
    clear hp h12 ht hft
    go_enter Tryd.func28, Tryd.ntmps28
    go_wp2_with fail
    refine (scand_any s hsz _).mono ?_
    rintro e w1 ⟨v, n, xs, ok, rfl, hown, hb1, hcase⟩
    obtain ⟨hc1, hf1⟩ := bcell hb1
    have s1 : w.heap.size < w1.heap.size := by have := hb1.size; simp at this; omega
    have b1 : Below w.heap.size w w1 := ((Below.refl _ _).alloc (Nat.le_refl _) _).trans (hb1.mono (by simp))
    have qq : ∀ i, i < 3 → w1.cell? ⟨w.heap.size, i, none⟩ = some (.int .i64 0) := fun i hi => (hc1 _ _ (by simp)).trans (new_cell w #[.int .i64 0, .int .i64 0, .int .i64 0] _ i _ (by rcases i with _ | _ | _ | i <;> first | rfl | omega))
    rcases hcase with ⟨hf, rfl, rfl, rfl⟩ | ⟨hf, -⟩
    · rw [HC.out.2] at hown
      simp only [List.length_singleton, List.flatMap_singleton] at hown
      clear hf
      obtain ⟨g, cap, rfl, hg0, hg1, q0, q1, q2⟩ := row_one hown
      go_wp2_with fail
      refine (specFmt_any _ _ _ _).mono ?_
      rw [HF.out]
      rintro e w2 ⟨rfl, hb2⟩
      obtain ⟨hc2, hf2⟩ := bcell hb2
      obtain ⟨z0, z1, z2⟩ := three_cells (w := w2) (.int .i64 (t.1 : Int)) (.int .i64 (t.2.1 : Int)) (.int .i64 (t.2.2 : Int)) ((hc2 _ _ s1).trans (qq 0 (by omega))) ((hc2 _ _ s1).trans (qq 1 (by omega))) ((hc2 _ _ s1).trans (qq 2 (by omega)))
      go_wp2
      refine bodyPost_ret (v := .tuple #[.agg #[.int .i64 (t.1 : Int), .int .i64 (t.2.1 : Int), .int .i64 (t.2.2 : Int)], .bool true]) (by simp [results, Tryd.results28, go_sem, *]) rfl ⟨rfl, ?_⟩
      exact sp_end (w2 := w2) _ _ _ _ false rfl (fun i hi => (hc2 _ _ s1).trans (qq i hi)) (b1.trans (hb2.mono (Nat.le_of_lt s1))) rfl
    · exact absurd HC.out.1 hf

end Go.Proofs.YtopkdkehkdhmgabDoor
