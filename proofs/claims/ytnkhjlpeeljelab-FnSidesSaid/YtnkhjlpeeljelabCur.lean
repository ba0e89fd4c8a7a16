/- A draw of one in m. -/
import Derived.Test.YtnkhjlpeeljelabCur0
namespace Go.Proofs.Ytnkhjlpeeljelab
open Go.RowKit
set_option linter.unusedVariables false


set_option maxRecDepth 100000 in
/-- Once in m. -/
theorem once_any {B n : Nat} {p : Option Addr} {cap gc oc : Nat} {w : World} {g : Nat} (hn : n ≤ 1048576) (h : Cu B n p cap gc oc w g) (m : Nat) (hm0 : 0 < m) (hm : m ≤ 4294967296) :
    Calls Try.prog 66 #[.pointer (some ⟨g, 0, none⟩), .int .i64 (m : Int)] w fun e w' => ∃ b : Bool, e = .returned (.bool b) ∧ Cu B n p cap gc oc w' g ∧ w.grownBy w' (some g) := by
  have H := Lib.hid h
  clear h
  go_enter Try.func66, Try.ntmps66
  go_wp2_with fail
  refine (below_any hn H.out m hm0 hm).mono ?_
  rintro e w1 ⟨x, hx, rfl, hc, hg⟩
  have HC := Lib.hid hc
  have HG := Lib.hid hg
  clear hc hg
  go_wp2_with fail
  go_ret
  exact ⟨_, rfl, HC.out, HG.out⟩

end Go.Proofs.Ytnkhjlpeeljelab
