/- Draws, with those of one in m. -/
import Derived.Test.YtnkhjlpeeljelabDraw0
import Derived.Test.YtnkhjlpeeljelabCur
namespace Go.Proofs.Ytnkhjlpeeljelab
open Go.RowKit
set_option linter.unusedVariables false

theorem once_at {B n : Nat} {p : Option Addr} {cap gc oc : Nat} {w : World} {g : Nat} (hn : n ≤ 1048576) (h : Cu B n p cap gc oc w g) (m : Nat) (z : Int) (hz : (m : Int) = z) (hm0 : 0 < m) (hm : m ≤ 4294967296) :
    Calls Try.prog 66 #[.pointer (some ⟨g, 0, none⟩), .int .i64 z] w fun e w' => ∃ b : Bool, e = .returned (.bool b) ∧ Cu B n p cap gc oc w' g ∧ w.grownBy w' (some g) := by subst hz; exact once_any hn h m hm0 hm

end Go.Proofs.Ytnkhjlpeeljelab
