/- The laws' own functions over belts, and the tests of belts, at values. -/
import Derived.Test.YtobcgidakbbhpabBeltLaw
import Derived.Test.YtobcgidakbbhpabOwnV
import Derived.Test.YtobcgidakbbhpabSBeltOk
import Derived.Test.YtobcgidakbbhpabBeltOkI
namespace Go.Proofs.Ytobcgidakbbhpab
open Go.RowKit

theorem szBelt_v (n : Nat) (v : Value) (l : Nat) (hl : l ≤ 1099511627776) (hn : n ≤ maxLen) (m : Nat) (z : Nat → Int) (L G : Int) (H : Bool) (w : World) (h : Rd w v n m z) :
    Calls Try.prog 15 #[.agg #[.int .i64 L, .int .i64 G, .bool H, v], .int .i64 (l : Int)] w fun e w' => e = .returned (.int .i64 (if n ≤ l then ((l - n : Nat) : Int) else -1)) ∧ Below w.heap.size w w' := by
  obtain ⟨p, c, g, o, rfl, h1, h2⟩ := h
  exact szBelt_any n p c l hl hn L G H w
theorem toBelt_v (n : Nat) (hn : n ≤ 1048576) (z : Nat → Int) (v : Value) (L G : Int) (H : Bool) (w : World) (h : Rd w v n (n * 3) z) :
    Calls Try.prog 17 #[.agg #[.int .i64 L, .int .i64 G, .bool H, v]] w fun e w' => ∃ p' c', e = .returned (.agg #[.int .i64 L, .int .i64 G, .bool H, .slice p' n c']) ∧ Own w' w.heap.size w'.heap.size (.slice p' n c') n (n * 3) z ∧ Below w.heap.size w w' := by
  obtain ⟨p, c, g, o, rfl, h1, h2⟩ := h
  refine (toBelt_any n hn z p c g o L G H w h2).mono ?_
  rintro e w' ⟨p', c', g', he, hc, h3, h4, hb⟩
  exact ⟨p', c', he, ⟨_, _, g', 0, rfl, hc, h3, h4⟩, hb⟩
theorem eqBelt_v (n : Nat) (hn : n ≤ 1048576) (z : Nat → Int) (va vb : Value) (L G : Int) (H : Bool) (w : World) (ha : Rd w va n (n * 3) z) (hb : Rd w vb n (n * 3) z) :
    Calls Try.prog 19 #[.agg #[.int .i64 L, .int .i64 G, .bool H, va], .agg #[.int .i64 L, .int .i64 G, .bool H, vb]] w fun e w' => e = .returned (.bool true) ∧ Below w.heap.size w w' := by
  obtain ⟨pa, ca, ga, oa, rfl, -, ha⟩ := ha
  obtain ⟨pb, cb, gb, ob, rfl, -, hb⟩ := hb
  exact eqBelt_any n hn z pa pb ca cb ga oa gb ob L G H w ha hb
theorem markBelt_v (k0 n : Nat) (hn : n ≤ 1048576) (hk9 : k0 ≤ 1099511627776) (z : Nat → Int) (lo hi : Nat) (v : Value) (L G : Int) (H : Bool) (w : World) (hh : hi ≤ w.heap.size) (h : Own w lo hi v n (n * 3) z) :
    Calls Try.prog 21 #[.agg #[.int .i64 L, .int .i64 G, .bool H, v], .int .i64 (k0 : Int)] w fun e w' => e = .returned (.int .i64 ((k0 + n * 3 : Nat) : Int)) ∧ Own w' lo hi v n (n * 3) (fun j => ((k0 + j : Nat) : Int)) ∧ Touch lo hi w w' := by
  obtain ⟨p, c, g, o, rfl, h1, h, hf⟩ := h
  refine (markBelt_any k0 n hn hk9 _ lo hi p c g o L G H w hh h hf).mono ?_
  rintro e w' ⟨he, a, b, t⟩
  exact ⟨he, ⟨p, c, g, o, rfl, h1, a, b⟩, t⟩
theorem sBeltOk_v (n : Nat) (hn : n ≤ maxLen) (z : Nat → Int) (v : Value) (L G : Int) (H : Bool) (w : World) (h : Rd w v n (n * 3) z) :
    Calls Try.prog 25 #[.agg #[.int .i64 L, .int .i64 G, .bool H, v]] w fun e w' => e = .returned (.bool (okB L G n z)) ∧ Below w.heap.size w w' := by
  obtain ⟨p, c, g, o, rfl, h1, h2⟩ := h
  exact sBeltOk_any n hn z p c g o L G H w h2
theorem iBeltOk_v (n : Nat) (hn : n ≤ maxLen) (z : Nat → Int) (v : Value) (L G : Int) (H : Bool) (w : World) (h : Rd w v n (n * 3) z) :
    Calls Try.prog 28 #[.agg #[.int .i64 L, .int .i64 G, .bool H, v]] w fun e w' => e = .returned (.bool (okB L G n z)) ∧ Below w.heap.size w w' := by
  obtain ⟨p, c, g, o, rfl, h1, h2⟩ := h
  exact iBeltOk_any n hn z p c g o L G H w h2 h1

end Go.Proofs.Ytobcgidakbbhpab
