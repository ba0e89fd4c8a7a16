/- From a row's list of variables to the facts that the shelf's contracts of strconv ask. -/
import Derived.Test.YtopkdkehkdhmgabDoorRows
import Derived.Lib.LaidTab
import Derived.Lib.Tables
import Derived.Lib.ItoaNum
import Derived.WalkKit
namespace Go.Proofs.YtopkdkehkdhmgabDoor
open Go.RowKit

theorem gTab : Tryd.prog.globalNamed "internal/strconv.uint64pow10" = some 3 := by kernel_rfl
theorem gTabType : (Tryd.prog.globals[3]?).map (·.type) = some 110 := by kernel_rfl
theorem tab_of_laid {W : World} {rest : List (String × DataW Unit)} (h : laidMet Tryd.prog (("internal/strconv.uint64pow10", Rows.laid_internal_strconv_uint64pow10) :: rest) W) :
    Lib.TabIs Tryd.prog W "internal/strconv.uint64pow10" .u64 Lib.pow10Tab :=
  Lib.tabIs_of_head gTab gTabType Tryd.underlying110 Tryd.underlying91 (by kernel_rfl) (by kernel_rfl) (show laidMet Tryd.prog (("internal/strconv.uint64pow10", Lib.tabData .u64 Lib.pow10Tab) :: rest) W from h)

end Go.Proofs.YtopkdkehkdhmgabDoor
