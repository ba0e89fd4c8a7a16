/- Clamping of any numbers, and the numbers that are drawn for it. -/
import Derived.Test.YtopkdkehkdhmgabDrawNum
import Derived.Test.YtopkdkehkdhmgabBig
import Derived.Test.YtopkdkehkdhmgabCode
namespace Go.Proofs.Ytopkdkehkdhmgab
open Go.RowKit
set_option linter.unusedVariables false

def clG (n lo hi : Int) : Int := if hi < lo then lo else if n < lo then lo else if hi < n then hi else n
theorem clG_any (n lo hi : Int) (w : World) : Calls Try.prog 49 #[.int .i64 n, .int .i64 lo, .int .i64 hi] w fun e w' => e = .returned (.int .i64 (clG n lo hi)) ∧ w = w' := by
  obtain ⟨r, hr⟩ : ∃ r, r = clG n lo hi := ⟨_, rfl⟩
  have HE : Hid ((hi < lo ∧ r = lo) ∨ (lo ≤ hi ∧ n < lo ∧ r = lo) ∨ (lo ≤ hi ∧ hi < n ∧ r = hi) ∨ (lo ≤ n ∧ n ≤ hi ∧ r = n)) := by show _ ∨ _; rw [hr]; unfold clG; split <;> (try split) <;> (try split) <;> omega
  rw [← hr]
  clear hr
  rcases HE.out with ⟨h1, rfl⟩ | ⟨h1, h2, rfl⟩ | ⟨h1, h2, rfl⟩ | ⟨h1, h2, rfl⟩
  all_goals clear HE
  · rcases Int.lt_trichotomy n r with c1 | c1 | c1 <;> rcases Int.lt_trichotomy n hi with c2 | c2 | c2
    all_goals (try (exfalso; omega))
    all_goals (try subst c1)
    all_goals (try subst c2)
    all_goals
      go_enter Try.func49, Try.ntmps49
      go_wp2
      go_ret
      exact ⟨rfl, rfl⟩
  · have c2 : n < hi := by omega
    go_enter Try.func49, Try.ntmps49
    go_wp2
    go_ret
    exact ⟨rfl, rfl⟩
  · rcases Int.lt_trichotomy lo r with c3 | c3 | c3
    all_goals (try (exfalso; omega))
    all_goals (try subst c3)
    all_goals
      go_enter Try.func49, Try.ntmps49
      go_wp2
      go_ret
      exact ⟨rfl, rfl⟩
  · rcases Int.lt_trichotomy lo r with c1 | c1 | c1 <;> rcases Int.lt_trichotomy r hi with c2 | c2 | c2
    all_goals (try (exfalso; omega))
    all_goals (try subst c1)
    all_goals (try subst c2)
    all_goals
      go_enter Try.func49, Try.ntmps49
      go_wp2
      go_ret
      exact ⟨rfl, rfl⟩

set_option maxRecDepth 100000 in
set_option maxHeartbeats 2000000 in
theorem drawClamp_any {B n : Nat} {p : Option Addr} {cap gc oc : Nat} {w : World} (hn : n ≤ 1048576) (hB : B ≤ w.heap.size) (hC : Code B n w p gc oc) :
    Calls Try.prog 48 #[.slice p n cap] w fun e w' => ∃ a b c : Int, e = .returned (.tuple #[.int .i64 a, .int .i64 b, .int .i64 c]) ∧ Below w.heap.size w w' := by
  have H := Lib.hid hC
  clear hC
  go_enter Try.func48, Try.ntmps48
  go_wp2_with fail
  refine (new_any (cap := cap) hn hB H.out).mono ?_
  rintro e w1 ⟨g, rfl, hc1, hb1, hg1⟩
  have HC1 := Lib.hid hc1
  have HB1 := Lib.hid hb1
  clear hb1 hc1
  go_wp2_with fail
  refine (once_at hn HC1.out 4 _ rfl (by omega) (by omega)).mono ?_
  rintro e w2 ⟨b1, rfl, hc2, hgr2⟩
  have HC2 := Lib.hid hc2
  have HG2 := Lib.hid hgr2
  clear hc2 hgr2
  have HBW := Lib.hid (fun (W : World) (hW : w1.grownBy W (some g)) => (below_grown hW HB1.out.size (fun k hk => by injection hk with hk; omega) : Below w.heap.size w1 W))
  cases b1
  · go_wp2_with fail
    refine (below_at hn HC2.out 40 _ rfl (by omega) (by omega)).mono ?_
    rintro e w3 ⟨x, hx, rfl, hc3, hgr3⟩
    have HC3 := Lib.hid hc3
    have HG3 := Lib.hid (HG2.out.trans hgr3)
    clear hc3 hgr3
    go_wp2_with fail
    refine (below_at hn HC3.out 80 _ rfl (by omega) (by omega)).mono ?_
    rintro e w4 ⟨y, hy, rfl, hc4, hgr4⟩
    have HC4 := Lib.hid hc4
    have HG4 := Lib.hid (HG3.out.trans hgr4)
    clear hc4 hgr4
    go_wp2_with fail
    refine (below_at hn HC4.out 30 _ rfl (by omega) (by omega)).mono ?_
    rintro e w5 ⟨z, hz, rfl, hc5, hgr5⟩
    have HG5 := Lib.hid (HG4.out.trans hgr5)
    clear hc5 hgr5
    go_wp2_with fail
    go_ret3
    exact ⟨_, _, _, rfl, HB1.out.trans (HBW.out _ HG5.out)⟩
  · go_wp2_with fail
    refine (number_any hn HC2.out).mono ?_
    rintro e w3 ⟨x, hx, rfl, hc3, hgr3⟩
    have HC3 := Lib.hid hc3
    have HG3 := Lib.hid (HG2.out.trans hgr3)
    clear hc3 hgr3
    go_wp2_with fail
    refine (number_any hn HC3.out).mono ?_
    rintro e w4 ⟨y, hy, rfl, hc4, hgr4⟩
    have HC4 := Lib.hid hc4
    have HG4 := Lib.hid (HG3.out.trans hgr4)
    clear hc4 hgr4
    go_wp2_with fail
    refine (number_any hn HC4.out).mono ?_
    rintro e w5 ⟨z, hz, rfl, hc5, hgr5⟩
    have HG5 := Lib.hid (HG4.out.trans hgr5)
    clear hc5 hgr5
    go_wp2_with fail
    go_ret3
    exact ⟨_, _, _, rfl, HB1.out.trans (HBW.out _ HG5.out)⟩

end Go.Proofs.Ytopkdkehkdhmgab
