/- What the texts of tags are, for the law of the tags. -/
import Derived.Test.YtopkdkehkdhmgabDoorParseTagImpl
namespace Go.Proofs.YtopkdkehkdhmgabDoor
open Go.RowKit
set_option linter.unusedVariables false

theorem ftext_len {a b c : Int} (h : tokB a b c = true) : (ftext a b c).length = 12 := by unfold ftext; rw [if_pos h]; simp [digs_length]
theorem ptans_of {a b c : Int} (h : tokB a b c = true) : ptv (ptans (ftext a b c)) = .tuple #[.agg #[.int .i64 a, .int .i64 b, .int .i64 c], .bool true] := by
  obtain ⟨N, -, -, ha, hb, hc, ht⟩ := tagOf_some (ftext_len h) (rfl : ftext a b c = ftext a b c)
  unfold ptans
  rw [if_pos (ftext_len h), ht, ha, hb, hc]
  rfl
/-- A text that shares the number of a tag's text is read just if it is that text. -/
theorem ptans_other {l m : List UInt8} {a b c : Int} (h : tokB a b c = true) (hl : l = ftext a b c) (hm : m.length = 12) (h10 : m.take 10 = l.take 10) : ∃ x y z : Int, ptv (ptans m) = .tuple #[.agg #[.int .i64 x, .int .i64 y, .int .i64 z], .bool (decide (m = l))] := by
  have h12 : l.length = 12 := by rw [hl]; exact ftext_len h
  by_cases e : m = l
  · rw [decide_eq_true e, e, hl, ptans_of h]
    exact ⟨_, _, _, rfl⟩
  · rw [decide_eq_false e]
    have hn : ptans m = none := by
      unfold ptans
      rw [if_pos hm]
      cases ht : tagOf m with
      | none => rfl
      | some t =>
        exfalso
        obtain ⟨N, ha, -, rfl, hf⟩ := tagOf_says hm ht
        obtain ⟨M, hb, -, h1, h2, h3, -⟩ := tagOf_some h12 hl.symm
        rw [h10, hb] at ha
        injection ha with ha
        have hMN : M = N := by omega
        subst hMN
        apply e
        rw [← hf, hl, h1, h2, h3]
    rw [hn]
    exact ⟨_, _, _, rfl⟩
/-- What is read is a tag of that text, or nothing. -/
theorem ptans_says (l : List UInt8) : (∃ a b c : Int, ptv (ptans l) = .tuple #[.agg #[.int .i64 a, .int .i64 b, .int .i64 c], .bool true] ∧ ftext a b c = l) ∨ ptv (ptans l) = .tuple #[.agg #[.int .i64 0, .int .i64 0, .int .i64 0], .bool false] := by
  unfold ptans
  by_cases h12 : l.length = 12
  · rw [if_pos h12]
    cases ht : tagOf l with
    | none => exact .inr rfl
    | some t =>
      obtain ⟨N, -, -, -, hf⟩ := tagOf_says h12 ht
      exact .inl ⟨_, _, _, rfl, hf⟩
  · rw [if_neg h12]
    exact .inr rfl
theorem ftext_empty (a b c : Int) : (ftext a b c).isEmpty = !tokB a b c := by
  unfold ftext
  by_cases h : tokB a b c = true
  · rw [if_pos h, h]; cases hd : digs (tnum a b c).toNat with | nil => rfl | cons x l => rfl
  · rw [if_neg h]; simp at h; rw [h]; rfl

end Go.Proofs.YtopkdkehkdhmgabDoor
