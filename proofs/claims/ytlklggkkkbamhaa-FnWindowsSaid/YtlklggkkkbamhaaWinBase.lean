/- Facts of the program's elements and items that the windows' walks need. -/
import Derived.Test.YtlklggkkkbamhaaOwnV
import Derived.Test.YtlklggkkkbamhaaSBeltOk
import Derived.Test.YtlklggkkkbamhaaBeltOkI
import Derived.Test.YtlklggkkkbamhaaSmall
import Derived.Test.YtlklggkkkbamhaaChecked
import Derived.Deep.LoopGhost
import Derived.BigQuiet
import Derived.Deep.QuietTactic
import Derived.Deep.RegionWith
import Derived.OwnWalk
import Derived.Laws.MakeOwn
import Derived.IntWalk
namespace Go.Proofs.Ytlklggkkkbamhaa
open Go.RowKit
theorem cellsExpectW : Try.prog.cellsOf 46 = 3 := by kernel_rfl
theorem cellsItemW : Try.prog.cellsOf 32 = 3 := by kernel_rfl
theorem infoExpectW : (Try.prog.info? 46).map (fun i => (i.zero, i.size, i.bytes)) = some (some (.agg #[.int .i64 0, .int .i64 0, .int .i64 0]), 3, 24) := by kernel_rfl
end Go.Proofs.Ytlklggkkkbamhaa
