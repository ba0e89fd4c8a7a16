/- From a row's list of variables to the facts that the shelf's contracts of strconv ask. -/
import Derived.Test.YtjdmagackoddaabDoorRows
import Derived.Lib.LaidTab
import Derived.Lib.Tables
import Derived.Lib.ItoaNum
import Derived.WalkKit
namespace Go.Proofs.YtjdmagackoddaabDoor
open Go.RowKit

theorem gTab : Tryd.prog.globalNamed "internal/strconv.uint64pow10" = some 1 := by kernel_rfl
theorem gTabType : (Tryd.prog.globals[1]?).map (·.type) = some 66 := by kernel_rfl
theorem tab_of_laid {W : World} {rest : List (String × DataW Unit)} (h : laidMet Tryd.prog (("internal/strconv.uint64pow10", Rows.laid_internal_strconv_uint64pow10) :: rest) W) :
    Lib.TabIs Tryd.prog W "internal/strconv.uint64pow10" .u64 Lib.pow10Tab :=
  Lib.tabIs_of_head gTab gTabType Tryd.underlying66 Tryd.underlying51 (by kernel_rfl) (by kernel_rfl) (show laidMet Tryd.prog (("internal/strconv.uint64pow10", Lib.tabData .u64 Lib.pow10Tab) :: rest) W from h)

end Go.Proofs.YtjdmagackoddaabDoor
