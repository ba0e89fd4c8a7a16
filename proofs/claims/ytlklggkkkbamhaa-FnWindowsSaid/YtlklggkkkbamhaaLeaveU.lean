/- What the model's Leave returns, for every belt. -/
import Derived.Test.YtlklggkkkbamhaaLeaveS
import Derived.Test.YtlklggkkkbamhaaLeaveT
namespace Go.Proofs.Ytlklggkkkbamhaa
open Go.RowKit

theorem sLeave_any (n : Nat) (hn : n ≤ 1048576) (z : Nat → Int) (p : Option Addr) (c g o : Nat) (L G : Int) (H : Bool) (w : World) (h : FlatAt w 0 w.heap.size p g o (n * 3) (fun j => .int .i64 (z j))) :
    Calls Try.prog 28 #[.agg #[.int .i64 L, .int .i64 G, .bool H, .slice p n c]] w fun e w' => ∃ p' c', e = .returned (.tuple #[.agg #[.int .i64 L, .int .i64 G, .bool H, .slice p' (lvN L G H n z) c'], .int .i64 (lvB L G H n z), .bool (lvOk L G H n z)]) ∧ lvN L G H n z ≤ c' ∧ RowNew w' w.heap.size p' (lvN L G H n z * 3) (lvZ L G H n z) ∧ Below w.heap.size w w' := by
  cases hl : lvOk L G H n z with
  | false =>
    have e1 : lvN L G H n z = n := by unfold lvN; rw [if_neg (by rw [hl]; decide)]
    have e2 : lvZ L G H n z = z := by unfold lvZ; rw [if_neg (by rw [hl]; decide)]
    have e3 : lvB L G H n z = 0 := by unfold lvB; rw [if_neg (by rw [hl]; decide)]
    rw [e1, e2, e3]
    rcases Bool.eq_false_or_eq_true (okB L G n z) with hk | hk
    · cases H with
      | true => exact sLeave_held n hn z p c g o L G w h hk
      | false =>
        rcases Nat.eq_zero_or_pos n with h0 | h0
        · subst h0
          exact sLeave_empty 0 hn z p c g o L G w h hk
        · obtain ⟨m, rfl⟩ : ∃ m, n = m + 1 := ⟨n - 1, by omega⟩
          have hz : z 1 < L := by
            rcases lv_no hl hk with e | e | e
            · cases e
            · omega
            · exact e
          exact sLeave_early m hn z p c g o L G w h hk hz
    · exact sLeave_notok n hn z p c g o L G H w h hk
  | true =>
    obtain ⟨hk, rfl, h0, hz⟩ := lv_yes hl
    obtain ⟨m, rfl⟩ : ∃ m, n = m + 1 := ⟨n - 1, by omega⟩
    have e1 : lvN L G false (m + 1) z = m := by unfold lvN; rw [if_pos hl]; omega
    have e2 : lvZ L G false (m + 1) z = shZ z := by unfold lvZ; rw [if_pos hl]
    have e3 : lvB L G false (m + 1) z = z 0 := by unfold lvB; rw [if_pos hl]
    rw [e1, e2, e3]
    exact sLeave_yes m hn z p c g o L G w h hk hz

end Go.Proofs.Ytlklggkkkbamhaa
