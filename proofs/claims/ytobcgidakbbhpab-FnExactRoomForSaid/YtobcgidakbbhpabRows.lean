/-
  No cell of these rows narrows 'for every input' (looked for: loops, veiled, ifaces, maps, wideKeys, modest, calm, conditions, laid).
  DERIVED. THE GIVEN ROWS OF THIS SEAT. 12 by the template 'for every input the law returns true; each argument reads behind the call as it read before'; 0 by the template 'total and deterministic' (their statements: YtobcgidakbbhpabTotals.lean).
  GIVEN WITH THE SEED: the statements are not yours to turn. If you find one false, say at which input.
  Laid BY PROGRAM, IN A SANDBOX (cutbox-rows.mjs): the forced cells as the released guide's own fill.sh prints them over the translation ab14ad0e61efe399… (all of the seat's roots in one cut). By AI agents, Wed Nov 11 2026. No macro, syntax, notation, axiom, sorry.
-/
import Derived.Test.YtobcgidakbbhpabChecked
import GoSem.Claim
import GoSem.ClaimJoined
import GoSem.ClaimMapViews
import Derived.JoinedTies
import Derived.KernelRfl
namespace Go.Proofs.Ytobcgidakbbhpab
/- THE CELL 'sum', in the pinned program and in every row, IS THE sha256 OF THE DUMP (.gsa) THAT YtobcgidakbbhpabProg.lean LOADS. Nothing in Lean hashes anything: it is a label: what it is worth is what the hold of that sum in a sandbox is worth. -/
noncomputable def Try.pinned : Pinned := { name := "ytobcgidakbbhpab", sum := "ab14ad0e61efe3992e00d0a9383ed50acf8bd5e12d52463ce6c60892f2b0987b", checked := Try.checked }
namespace Rows
def none {H : Type} : Left H := { results := [], args := [] }

/-- 'laws.FnExactRun': WHATEVER THE INPUT: true; the input reads as it did. -/
def fnExactRunSpec : ChangeSpec := { name := "fnExactRun", fn := fun _ => fun
  | [d1, d2] => { results := [.lit (.bool true)], args := [d1, d2] }
  | _ => none }
def fnExactRunRow : OpenClaim := { program := "ytobcgidakbbhpab", sum := "ab14ad0e61efe3992e00d0a9383ed50acf8bd5e12d52463ce6c60892f2b0987b", func := "loop.example/g03319/laws.FnExactRun", spec := "fnExactRun", unfollowed := true, recurses := true, apart := false }
def FnExactRunSaid : Prop := fnExactRunRow.holds Try.pinned (OpenSpec.ofChange fnExactRunSpec)

/-- ITS FALSE NEIGHBOUR: 'it returns false'. Refute it at one input. -/
def fnExactRunWrong : ChangeSpec := { name := "fnExactRun", fn := fun _ => fun
  | [d1, d2] => { results := [.lit (.bool false)], args := [d1, d2] }
  | _ => none }
def FnExactRunWrongFalsely : Prop := fnExactRunRow.holds Try.pinned (OpenSpec.ofChange fnExactRunWrong)

/-- 'laws.FnBeltRuns': WHATEVER THE INPUT: true; the input reads as it did. -/
def fnBeltRunsSpec : ChangeSpec := { name := "fnBeltRuns", fn := fun _ => fun
  | [d1, d2] => { results := [.lit (.bool true)], args := [d1, d2] }
  | _ => none }
def fnBeltRunsRow : OpenClaim := { program := "ytobcgidakbbhpab", sum := "ab14ad0e61efe3992e00d0a9383ed50acf8bd5e12d52463ce6c60892f2b0987b", func := "loop.example/g03319/laws.FnBeltRuns", spec := "fnBeltRuns", unfollowed := true, recurses := true, apart := false }
def FnBeltRunsSaid : Prop := fnBeltRunsRow.holds Try.pinned (OpenSpec.ofChange fnBeltRunsSpec)

/-- ITS FALSE NEIGHBOUR: 'it returns false'. Refute it at one input. -/
def fnBeltRunsWrong : ChangeSpec := { name := "fnBeltRuns", fn := fun _ => fun
  | [d1, d2] => { results := [.lit (.bool false)], args := [d1, d2] }
  | _ => none }
def FnBeltRunsWrongFalsely : Prop := fnBeltRunsRow.holds Try.pinned (OpenSpec.ofChange fnBeltRunsWrong)

/-- 'laws.FnExactRoomFor': WHATEVER THE INPUT: true; the input reads as it did. -/
def fnExactRoomForSpec : ChangeSpec := { name := "fnExactRoomFor", fn := fun _ => fun
  | [d1, d2] => { results := [.lit (.bool true)], args := [d1, d2] }
  | _ => none }
def fnExactRoomForRow : OpenClaim := { program := "ytobcgidakbbhpab", sum := "ab14ad0e61efe3992e00d0a9383ed50acf8bd5e12d52463ce6c60892f2b0987b", func := "loop.example/g03319/laws.FnExactRoomFor", spec := "fnExactRoomFor", unfollowed := true, recurses := true, apart := false }
def FnExactRoomForSaid : Prop := fnExactRoomForRow.holds Try.pinned (OpenSpec.ofChange fnExactRoomForSpec)

/-- ITS FALSE NEIGHBOUR: 'it returns false'. Refute it at one input. -/
def fnExactRoomForWrong : ChangeSpec := { name := "fnExactRoomFor", fn := fun _ => fun
  | [d1, d2] => { results := [.lit (.bool false)], args := [d1, d2] }
  | _ => none }
def FnExactRoomForWrongFalsely : Prop := fnExactRoomForRow.holds Try.pinned (OpenSpec.ofChange fnExactRoomForWrong)

/-- 'laws.FnBeltRoom': WHATEVER THE INPUT: true; the input reads as it did. -/
def fnBeltRoomSpec : ChangeSpec := { name := "fnBeltRoom", fn := fun _ => fun
  | [d] => { results := [.lit (.bool true)], args := [d] }
  | _ => none }
def fnBeltRoomRow : OpenClaim := { program := "ytobcgidakbbhpab", sum := "ab14ad0e61efe3992e00d0a9383ed50acf8bd5e12d52463ce6c60892f2b0987b", func := "loop.example/g03319/laws.FnBeltRoom", spec := "fnBeltRoom", unfollowed := true, recurses := true, apart := false }
def FnBeltRoomSaid : Prop := fnBeltRoomRow.holds Try.pinned (OpenSpec.ofChange fnBeltRoomSpec)

/-- ITS FALSE NEIGHBOUR: 'it returns false'. Refute it at one input. -/
def fnBeltRoomWrong : ChangeSpec := { name := "fnBeltRoom", fn := fun _ => fun
  | [d] => { results := [.lit (.bool false)], args := [d] }
  | _ => none }
def FnBeltRoomWrongFalsely : Prop := fnBeltRoomRow.holds Try.pinned (OpenSpec.ofChange fnBeltRoomWrong)

/-- 'laws.FnBeltEnters': WHATEVER THE INPUT: true; the input reads as it did. -/
def fnBeltEntersSpec : ChangeSpec := { name := "fnBeltEnters", fn := fun _ => fun
  | [d] => { results := [.lit (.bool true)], args := [d] }
  | _ => none }
def fnBeltEntersRow : OpenClaim := { program := "ytobcgidakbbhpab", sum := "ab14ad0e61efe3992e00d0a9383ed50acf8bd5e12d52463ce6c60892f2b0987b", func := "loop.example/g03319/laws.FnBeltEnters", spec := "fnBeltEnters", unfollowed := true, recurses := true, apart := false }
def FnBeltEntersSaid : Prop := fnBeltEntersRow.holds Try.pinned (OpenSpec.ofChange fnBeltEntersSpec)

/-- ITS FALSE NEIGHBOUR: 'it returns false'. Refute it at one input. -/
def fnBeltEntersWrong : ChangeSpec := { name := "fnBeltEnters", fn := fun _ => fun
  | [d] => { results := [.lit (.bool false)], args := [d] }
  | _ => none }
def FnBeltEntersWrongFalsely : Prop := fnBeltEntersRow.holds Try.pinned (OpenSpec.ofChange fnBeltEntersWrong)

/-- 'laws.FnWindows': WHATEVER THE INPUT: true; the input reads as it did. -/
def fnWindowsSpec : ChangeSpec := { name := "fnWindows", fn := fun _ => fun
  | [d] => { results := [.lit (.bool true)], args := [d] }
  | _ => none }
def fnWindowsRow : OpenClaim := { program := "ytobcgidakbbhpab", sum := "ab14ad0e61efe3992e00d0a9383ed50acf8bd5e12d52463ce6c60892f2b0987b", func := "loop.example/g03319/laws.FnWindows", spec := "fnWindows", unfollowed := true, recurses := true, apart := false }
def FnWindowsSaid : Prop := fnWindowsRow.holds Try.pinned (OpenSpec.ofChange fnWindowsSpec)

/-- ITS FALSE NEIGHBOUR: 'it returns false'. Refute it at one input. -/
def fnWindowsWrong : ChangeSpec := { name := "fnWindows", fn := fun _ => fun
  | [d] => { results := [.lit (.bool false)], args := [d] }
  | _ => none }
def FnWindowsWrongFalsely : Prop := fnWindowsRow.holds Try.pinned (OpenSpec.ofChange fnWindowsWrong)

/-- 'laws.FnExactAssign': WHATEVER THE INPUT: true; the input reads as it did. -/
def fnExactAssignSpec : ChangeSpec := { name := "fnExactAssign", fn := fun _ => fun
  | [d1, d2] => { results := [.lit (.bool true)], args := [d1, d2] }
  | _ => none }
def fnExactAssignRow : OpenClaim := { program := "ytobcgidakbbhpab", sum := "ab14ad0e61efe3992e00d0a9383ed50acf8bd5e12d52463ce6c60892f2b0987b", func := "loop.example/g03319/laws.FnExactAssign", spec := "fnExactAssign", unfollowed := true, recurses := true, apart := false }
def FnExactAssignSaid : Prop := fnExactAssignRow.holds Try.pinned (OpenSpec.ofChange fnExactAssignSpec)

/-- ITS FALSE NEIGHBOUR: 'it returns false'. Refute it at one input. -/
def fnExactAssignWrong : ChangeSpec := { name := "fnExactAssign", fn := fun _ => fun
  | [d1, d2] => { results := [.lit (.bool false)], args := [d1, d2] }
  | _ => none }
def FnExactAssignWrongFalsely : Prop := fnExactAssignRow.holds Try.pinned (OpenSpec.ofChange fnExactAssignWrong)

/-- 'laws.FnExactMissing': WHATEVER THE INPUT: true; the input reads as it did. -/
def fnExactMissingSpec : ChangeSpec := { name := "fnExactMissing", fn := fun _ => fun
  | [d1, d2, d3] => { results := [.lit (.bool true)], args := [d1, d2, d3] }
  | _ => none }
def fnExactMissingRow : OpenClaim := { program := "ytobcgidakbbhpab", sum := "ab14ad0e61efe3992e00d0a9383ed50acf8bd5e12d52463ce6c60892f2b0987b", func := "loop.example/g03319/laws.FnExactMissing", spec := "fnExactMissing", unfollowed := true, recurses := true, apart := false }
def FnExactMissingSaid : Prop := fnExactMissingRow.holds Try.pinned (OpenSpec.ofChange fnExactMissingSpec)

/-- ITS FALSE NEIGHBOUR: 'it returns false'. Refute it at one input. -/
def fnExactMissingWrong : ChangeSpec := { name := "fnExactMissing", fn := fun _ => fun
  | [d1, d2, d3] => { results := [.lit (.bool false)], args := [d1, d2, d3] }
  | _ => none }
def FnExactMissingWrongFalsely : Prop := fnExactMissingRow.holds Try.pinned (OpenSpec.ofChange fnExactMissingWrong)

/-- 'laws.FnExactMostAssigned': WHATEVER THE INPUT: true; the input reads as it did. -/
def fnExactMostAssignedSpec : ChangeSpec := { name := "fnExactMostAssigned", fn := fun _ => fun
  | [d1, d2] => { results := [.lit (.bool true)], args := [d1, d2] }
  | _ => none }
def fnExactMostAssignedRow : OpenClaim := { program := "ytobcgidakbbhpab", sum := "ab14ad0e61efe3992e00d0a9383ed50acf8bd5e12d52463ce6c60892f2b0987b", func := "loop.example/g03319/laws.FnExactMostAssigned", spec := "fnExactMostAssigned", unfollowed := true, recurses := true, apart := false }
def FnExactMostAssignedSaid : Prop := fnExactMostAssignedRow.holds Try.pinned (OpenSpec.ofChange fnExactMostAssignedSpec)

/-- ITS FALSE NEIGHBOUR: 'it returns false'. Refute it at one input. -/
def fnExactMostAssignedWrong : ChangeSpec := { name := "fnExactMostAssigned", fn := fun _ => fun
  | [d1, d2] => { results := [.lit (.bool false)], args := [d1, d2] }
  | _ => none }
def FnExactMostAssignedWrongFalsely : Prop := fnExactMostAssignedRow.holds Try.pinned (OpenSpec.ofChange fnExactMostAssignedWrong)

/-- 'laws.FnExactChoices': WHATEVER THE INPUT: true; the input reads as it did. -/
def fnExactChoicesSpec : ChangeSpec := { name := "fnExactChoices", fn := fun _ => fun
  | [d1, d2, d3] => { results := [.lit (.bool true)], args := [d1, d2, d3] }
  | _ => none }
def fnExactChoicesRow : OpenClaim := { program := "ytobcgidakbbhpab", sum := "ab14ad0e61efe3992e00d0a9383ed50acf8bd5e12d52463ce6c60892f2b0987b", func := "loop.example/g03319/laws.FnExactChoices", spec := "fnExactChoices", unfollowed := true, recurses := true, apart := false }
def FnExactChoicesSaid : Prop := fnExactChoicesRow.holds Try.pinned (OpenSpec.ofChange fnExactChoicesSpec)

/-- ITS FALSE NEIGHBOUR: 'it returns false'. Refute it at one input. -/
def fnExactChoicesWrong : ChangeSpec := { name := "fnExactChoices", fn := fun _ => fun
  | [d1, d2, d3] => { results := [.lit (.bool false)], args := [d1, d2, d3] }
  | _ => none }
def FnExactChoicesWrongFalsely : Prop := fnExactChoicesRow.holds Try.pinned (OpenSpec.ofChange fnExactChoicesWrong)

/-- 'laws.FnExactSure': WHATEVER THE INPUT: true; the input reads as it did. -/
def fnExactSureSpec : ChangeSpec := { name := "fnExactSure", fn := fun _ => fun
  | [d1, d2] => { results := [.lit (.bool true)], args := [d1, d2] }
  | _ => none }
def fnExactSureRow : OpenClaim := { program := "ytobcgidakbbhpab", sum := "ab14ad0e61efe3992e00d0a9383ed50acf8bd5e12d52463ce6c60892f2b0987b", func := "loop.example/g03319/laws.FnExactSure", spec := "fnExactSure", unfollowed := true, recurses := true, apart := false }
def FnExactSureSaid : Prop := fnExactSureRow.holds Try.pinned (OpenSpec.ofChange fnExactSureSpec)

/-- ITS FALSE NEIGHBOUR: 'it returns false'. Refute it at one input. -/
def fnExactSureWrong : ChangeSpec := { name := "fnExactSure", fn := fun _ => fun
  | [d1, d2] => { results := [.lit (.bool false)], args := [d1, d2] }
  | _ => none }
def FnExactSureWrongFalsely : Prop := fnExactSureRow.holds Try.pinned (OpenSpec.ofChange fnExactSureWrong)

/-- 'laws.FnEveryTaking': WHATEVER THE INPUT: true; the input reads as it did. -/
def fnEveryTakingSpec : ChangeSpec := { name := "fnEveryTaking", fn := fun _ => fun
  | [d1, d2, d3] => { results := [.lit (.bool true)], args := [d1, d2, d3] }
  | _ => none }
def fnEveryTakingRow : OpenClaim := { program := "ytobcgidakbbhpab", sum := "ab14ad0e61efe3992e00d0a9383ed50acf8bd5e12d52463ce6c60892f2b0987b", func := "loop.example/g03319/laws.FnEveryTaking", spec := "fnEveryTaking", unfollowed := true, recurses := true, apart := false }
def FnEveryTakingSaid : Prop := fnEveryTakingRow.holds Try.pinned (OpenSpec.ofChange fnEveryTakingSpec)

/-- ITS FALSE NEIGHBOUR: 'it returns false'. Refute it at one input. -/
def fnEveryTakingWrong : ChangeSpec := { name := "fnEveryTaking", fn := fun _ => fun
  | [d1, d2, d3] => { results := [.lit (.bool false)], args := [d1, d2, d3] }
  | _ => none }
def FnEveryTakingWrongFalsely : Prop := fnEveryTakingRow.holds Try.pinned (OpenSpec.ofChange fnEveryTakingWrong)

/- THE SECOND FORM. 'bulk': how many values and letters a reading holds, each counted each time it is reached (what is shared counts as often as it is met; a slice's spare places count too). A statement '..UptoSaid' is the law's where the arguments, and the package variables that the reading takes, are together of bulk at most 1048576: NARROWER than '..Said'. Prove '..Said' where nothing that the law and all that it calls make is longer than what came in: it says more and counts as full. Else prove '..UptoSaid'. A law counts once. -/
mutual
def uptoBulk {H : Type} : DataW H → Nat
  | .lit (.string bytes) => bytes.length + 1
  | .lit _ => 1
  | .nil => 1
  | .ptr d => uptoBulk d + 1
  | .slice elems spare => uptoBulkAll elems + uptoBulkAll spare + 1
  | .agg parts => uptoBulkAll parts + 1
  | .iface _ d => uptoBulk d + 1
  | .map entries => uptoBulkEntries entries + 1
  | .held _ => 1
def uptoBulkAll {H : Type} : List (DataW H) → Nat
  | [] => 0
  | d :: r => uptoBulk d + uptoBulkAll r
def uptoBulkEntries {H : Type} : List (Lit × DataW H) → Nat
  | [] => 0
  | x :: r => uptoBulkEntry x + uptoBulkEntries r
def uptoBulkEntry {H : Type} : Lit × DataW H → Nat
  | (.string bytes, d) => bytes.length + uptoBulk d + 1
  | (_, d) => uptoBulk d + 1
 end
def uptoSmall : (H : Type) → List (DataW H) → Bool := fun _ ds => decide (uptoBulkAll ds ≤ 1048576)
def OpenSpec.upto (s : _root_.Go.ChangeSpec) : _root_.Go.OpenSpec := { _root_.Go.OpenSpec.ofChange s with cond := some uptoSmall }

/-- 'laws.FnExactRun', WHERE WHAT IT READS IS OF BULK AT MOST 1048576: true; the input reads as it did. -/
def fnExactRunUptoRow : OpenClaim := { program := "ytobcgidakbbhpab", sum := "ab14ad0e61efe3992e00d0a9383ed50acf8bd5e12d52463ce6c60892f2b0987b", func := "loop.example/g03319/laws.FnExactRun", spec := "fnExactRun", unfollowed := true, recurses := true, apart := false, narrowed := true }
def FnExactRunUptoSaid : Prop := fnExactRunUptoRow.holds Try.pinned (OpenSpec.upto fnExactRunSpec)

/-- 'laws.FnBeltRuns', WHERE WHAT IT READS IS OF BULK AT MOST 1048576: true; the input reads as it did. -/
def fnBeltRunsUptoRow : OpenClaim := { program := "ytobcgidakbbhpab", sum := "ab14ad0e61efe3992e00d0a9383ed50acf8bd5e12d52463ce6c60892f2b0987b", func := "loop.example/g03319/laws.FnBeltRuns", spec := "fnBeltRuns", unfollowed := true, recurses := true, apart := false, narrowed := true }
def FnBeltRunsUptoSaid : Prop := fnBeltRunsUptoRow.holds Try.pinned (OpenSpec.upto fnBeltRunsSpec)

/-- 'laws.FnExactRoomFor', WHERE WHAT IT READS IS OF BULK AT MOST 1048576: true; the input reads as it did. -/
def fnExactRoomForUptoRow : OpenClaim := { program := "ytobcgidakbbhpab", sum := "ab14ad0e61efe3992e00d0a9383ed50acf8bd5e12d52463ce6c60892f2b0987b", func := "loop.example/g03319/laws.FnExactRoomFor", spec := "fnExactRoomFor", unfollowed := true, recurses := true, apart := false, narrowed := true }
def FnExactRoomForUptoSaid : Prop := fnExactRoomForUptoRow.holds Try.pinned (OpenSpec.upto fnExactRoomForSpec)

/-- 'laws.FnBeltRoom', WHERE WHAT IT READS IS OF BULK AT MOST 1048576: true; the input reads as it did. -/
def fnBeltRoomUptoRow : OpenClaim := { program := "ytobcgidakbbhpab", sum := "ab14ad0e61efe3992e00d0a9383ed50acf8bd5e12d52463ce6c60892f2b0987b", func := "loop.example/g03319/laws.FnBeltRoom", spec := "fnBeltRoom", unfollowed := true, recurses := true, apart := false, narrowed := true }
def FnBeltRoomUptoSaid : Prop := fnBeltRoomUptoRow.holds Try.pinned (OpenSpec.upto fnBeltRoomSpec)

/-- 'laws.FnBeltEnters', WHERE WHAT IT READS IS OF BULK AT MOST 1048576: true; the input reads as it did. -/
def fnBeltEntersUptoRow : OpenClaim := { program := "ytobcgidakbbhpab", sum := "ab14ad0e61efe3992e00d0a9383ed50acf8bd5e12d52463ce6c60892f2b0987b", func := "loop.example/g03319/laws.FnBeltEnters", spec := "fnBeltEnters", unfollowed := true, recurses := true, apart := false, narrowed := true }
def FnBeltEntersUptoSaid : Prop := fnBeltEntersUptoRow.holds Try.pinned (OpenSpec.upto fnBeltEntersSpec)

/-- 'laws.FnWindows', WHERE WHAT IT READS IS OF BULK AT MOST 1048576: true; the input reads as it did. -/
def fnWindowsUptoRow : OpenClaim := { program := "ytobcgidakbbhpab", sum := "ab14ad0e61efe3992e00d0a9383ed50acf8bd5e12d52463ce6c60892f2b0987b", func := "loop.example/g03319/laws.FnWindows", spec := "fnWindows", unfollowed := true, recurses := true, apart := false, narrowed := true }
def FnWindowsUptoSaid : Prop := fnWindowsUptoRow.holds Try.pinned (OpenSpec.upto fnWindowsSpec)

/-- 'laws.FnExactAssign', WHERE WHAT IT READS IS OF BULK AT MOST 1048576: true; the input reads as it did. -/
def fnExactAssignUptoRow : OpenClaim := { program := "ytobcgidakbbhpab", sum := "ab14ad0e61efe3992e00d0a9383ed50acf8bd5e12d52463ce6c60892f2b0987b", func := "loop.example/g03319/laws.FnExactAssign", spec := "fnExactAssign", unfollowed := true, recurses := true, apart := false, narrowed := true }
def FnExactAssignUptoSaid : Prop := fnExactAssignUptoRow.holds Try.pinned (OpenSpec.upto fnExactAssignSpec)

/-- 'laws.FnExactMissing', WHERE WHAT IT READS IS OF BULK AT MOST 1048576: true; the input reads as it did. -/
def fnExactMissingUptoRow : OpenClaim := { program := "ytobcgidakbbhpab", sum := "ab14ad0e61efe3992e00d0a9383ed50acf8bd5e12d52463ce6c60892f2b0987b", func := "loop.example/g03319/laws.FnExactMissing", spec := "fnExactMissing", unfollowed := true, recurses := true, apart := false, narrowed := true }
def FnExactMissingUptoSaid : Prop := fnExactMissingUptoRow.holds Try.pinned (OpenSpec.upto fnExactMissingSpec)

/-- 'laws.FnExactMostAssigned', WHERE WHAT IT READS IS OF BULK AT MOST 1048576: true; the input reads as it did. -/
def fnExactMostAssignedUptoRow : OpenClaim := { program := "ytobcgidakbbhpab", sum := "ab14ad0e61efe3992e00d0a9383ed50acf8bd5e12d52463ce6c60892f2b0987b", func := "loop.example/g03319/laws.FnExactMostAssigned", spec := "fnExactMostAssigned", unfollowed := true, recurses := true, apart := false, narrowed := true }
def FnExactMostAssignedUptoSaid : Prop := fnExactMostAssignedUptoRow.holds Try.pinned (OpenSpec.upto fnExactMostAssignedSpec)

/-- 'laws.FnExactChoices', WHERE WHAT IT READS IS OF BULK AT MOST 1048576: true; the input reads as it did. -/
def fnExactChoicesUptoRow : OpenClaim := { program := "ytobcgidakbbhpab", sum := "ab14ad0e61efe3992e00d0a9383ed50acf8bd5e12d52463ce6c60892f2b0987b", func := "loop.example/g03319/laws.FnExactChoices", spec := "fnExactChoices", unfollowed := true, recurses := true, apart := false, narrowed := true }
def FnExactChoicesUptoSaid : Prop := fnExactChoicesUptoRow.holds Try.pinned (OpenSpec.upto fnExactChoicesSpec)

/-- 'laws.FnExactSure', WHERE WHAT IT READS IS OF BULK AT MOST 1048576: true; the input reads as it did. -/
def fnExactSureUptoRow : OpenClaim := { program := "ytobcgidakbbhpab", sum := "ab14ad0e61efe3992e00d0a9383ed50acf8bd5e12d52463ce6c60892f2b0987b", func := "loop.example/g03319/laws.FnExactSure", spec := "fnExactSure", unfollowed := true, recurses := true, apart := false, narrowed := true }
def FnExactSureUptoSaid : Prop := fnExactSureUptoRow.holds Try.pinned (OpenSpec.upto fnExactSureSpec)

/-- 'laws.FnEveryTaking', WHERE WHAT IT READS IS OF BULK AT MOST 1048576: true; the input reads as it did. -/
def fnEveryTakingUptoRow : OpenClaim := { program := "ytobcgidakbbhpab", sum := "ab14ad0e61efe3992e00d0a9383ed50acf8bd5e12d52463ce6c60892f2b0987b", func := "loop.example/g03319/laws.FnEveryTaking", spec := "fnEveryTaking", unfollowed := true, recurses := true, apart := false, narrowed := true }
def FnEveryTakingUptoSaid : Prop := fnEveryTakingUptoRow.holds Try.pinned (OpenSpec.upto fnEveryTakingSpec)

end Rows
end Go.Proofs.Ytobcgidakbbhpab
