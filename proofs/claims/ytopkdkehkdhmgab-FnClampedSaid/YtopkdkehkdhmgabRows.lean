/-
  No cell of these rows narrows 'for every input' (looked for: loops, veiled, ifaces, maps, wideKeys, modest, calm, conditions, laid).
  DERIVED. THE GIVEN ROWS OF THIS SEAT. 8 by the template 'for every input the law returns true; each argument reads behind the call as it read before'; 0 by the template 'total and deterministic' (their statements: YtopkdkehkdhmgabTotals.lean).
  GIVEN WITH THE SEED: the statements are not yours to turn. If you find one false, say at which input.
  Laid BY PROGRAM, IN A SANDBOX (cutbox-rows.mjs): the forced cells as the released guide's own fill.sh prints them over the translation a97fa2535464b58c… (all of the seat's roots in one cut). By AI agents, Wed Nov 11 2026. No macro, syntax, notation, axiom, sorry.
-/
import Derived.Test.YtopkdkehkdhmgabChecked
import GoSem.Claim
import GoSem.ClaimJoined
import GoSem.ClaimMapViews
import Derived.JoinedTies
import Derived.KernelRfl
namespace Go.Proofs.Ytopkdkehkdhmgab
/- THE CELL 'sum', in the pinned program and in every row, IS THE sha256 OF THE DUMP (.gsa) THAT YtopkdkehkdhmgabProg.lean LOADS. Nothing in Lean hashes anything: it is a label: what it is worth is what the hold of that sum in a sandbox is worth. -/
noncomputable def Try.pinned : Pinned := { name := "ytopkdkehkdhmgab", sum := "a97fa2535464b58c241870dffedfe55d7ad21d59acb5082299328c4ccbd80dbe", checked := Try.checked }
namespace Rows
def none {H : Type} : Left H := { results := [], args := [] }

/-- 'laws.FnBeltMoves': WHATEVER THE INPUT: true; the input reads as it did. -/
def fnBeltMovesSpec : ChangeSpec := { name := "fnBeltMoves", fn := fun _ => fun
  | [d1, d2, d3] => { results := [.lit (.bool true)], args := [d1, d2, d3] }
  | _ => none }
def fnBeltMovesRow : OpenClaim := { program := "ytopkdkehkdhmgab", sum := "a97fa2535464b58c241870dffedfe55d7ad21d59acb5082299328c4ccbd80dbe", func := "loop.example/g03319/laws.FnBeltMoves", spec := "fnBeltMoves", unfollowed := true, recurses := true, apart := false }
def FnBeltMovesSaid : Prop := fnBeltMovesRow.holds Try.pinned (OpenSpec.ofChange fnBeltMovesSpec)

/-- ITS FALSE NEIGHBOUR: 'it returns false'. Refute it at one input. -/
def fnBeltMovesWrong : ChangeSpec := { name := "fnBeltMoves", fn := fun _ => fun
  | [d1, d2, d3] => { results := [.lit (.bool false)], args := [d1, d2, d3] }
  | _ => none }
def FnBeltMovesWrongFalsely : Prop := fnBeltMovesRow.holds Try.pinned (OpenSpec.ofChange fnBeltMovesWrong)

/-- 'laws.FnBeltRuns': WHATEVER THE INPUT: true; the input reads as it did. -/
def fnBeltRunsSpec : ChangeSpec := { name := "fnBeltRuns", fn := fun _ => fun
  | [d1, d2] => { results := [.lit (.bool true)], args := [d1, d2] }
  | _ => none }
def fnBeltRunsRow : OpenClaim := { program := "ytopkdkehkdhmgab", sum := "a97fa2535464b58c241870dffedfe55d7ad21d59acb5082299328c4ccbd80dbe", func := "loop.example/g03319/laws.FnBeltRuns", spec := "fnBeltRuns", unfollowed := true, recurses := true, apart := false }
def FnBeltRunsSaid : Prop := fnBeltRunsRow.holds Try.pinned (OpenSpec.ofChange fnBeltRunsSpec)

/-- ITS FALSE NEIGHBOUR: 'it returns false'. Refute it at one input. -/
def fnBeltRunsWrong : ChangeSpec := { name := "fnBeltRuns", fn := fun _ => fun
  | [d1, d2] => { results := [.lit (.bool false)], args := [d1, d2] }
  | _ => none }
def FnBeltRunsWrongFalsely : Prop := fnBeltRunsRow.holds Try.pinned (OpenSpec.ofChange fnBeltRunsWrong)

/-- 'laws.FnExactRun': WHATEVER THE INPUT: true; the input reads as it did. -/
def fnExactRunSpec : ChangeSpec := { name := "fnExactRun", fn := fun _ => fun
  | [d1, d2] => { results := [.lit (.bool true)], args := [d1, d2] }
  | _ => none }
def fnExactRunRow : OpenClaim := { program := "ytopkdkehkdhmgab", sum := "a97fa2535464b58c241870dffedfe55d7ad21d59acb5082299328c4ccbd80dbe", func := "loop.example/g03319/laws.FnExactRun", spec := "fnExactRun", unfollowed := true, recurses := true, apart := false }
def FnExactRunSaid : Prop := fnExactRunRow.holds Try.pinned (OpenSpec.ofChange fnExactRunSpec)

/-- ITS FALSE NEIGHBOUR: 'it returns false'. Refute it at one input. -/
def fnExactRunWrong : ChangeSpec := { name := "fnExactRun", fn := fun _ => fun
  | [d1, d2] => { results := [.lit (.bool false)], args := [d1, d2] }
  | _ => none }
def FnExactRunWrongFalsely : Prop := fnExactRunRow.holds Try.pinned (OpenSpec.ofChange fnExactRunWrong)

/-- 'laws.FnExactRoomFor': WHATEVER THE INPUT: true; the input reads as it did. -/
def fnExactRoomForSpec : ChangeSpec := { name := "fnExactRoomFor", fn := fun _ => fun
  | [d1, d2] => { results := [.lit (.bool true)], args := [d1, d2] }
  | _ => none }
def fnExactRoomForRow : OpenClaim := { program := "ytopkdkehkdhmgab", sum := "a97fa2535464b58c241870dffedfe55d7ad21d59acb5082299328c4ccbd80dbe", func := "loop.example/g03319/laws.FnExactRoomFor", spec := "fnExactRoomFor", unfollowed := true, recurses := true, apart := false }
def FnExactRoomForSaid : Prop := fnExactRoomForRow.holds Try.pinned (OpenSpec.ofChange fnExactRoomForSpec)

/-- ITS FALSE NEIGHBOUR: 'it returns false'. Refute it at one input. -/
def fnExactRoomForWrong : ChangeSpec := { name := "fnExactRoomFor", fn := fun _ => fun
  | [d1, d2] => { results := [.lit (.bool false)], args := [d1, d2] }
  | _ => none }
def FnExactRoomForWrongFalsely : Prop := fnExactRoomForRow.holds Try.pinned (OpenSpec.ofChange fnExactRoomForWrong)

/-- 'laws.FnBeltRoom': WHATEVER THE INPUT: true; the input reads as it did. -/
def fnBeltRoomSpec : ChangeSpec := { name := "fnBeltRoom", fn := fun _ => fun
  | [d] => { results := [.lit (.bool true)], args := [d] }
  | _ => none }
def fnBeltRoomRow : OpenClaim := { program := "ytopkdkehkdhmgab", sum := "a97fa2535464b58c241870dffedfe55d7ad21d59acb5082299328c4ccbd80dbe", func := "loop.example/g03319/laws.FnBeltRoom", spec := "fnBeltRoom", unfollowed := true, recurses := true, apart := false }
def FnBeltRoomSaid : Prop := fnBeltRoomRow.holds Try.pinned (OpenSpec.ofChange fnBeltRoomSpec)

/-- ITS FALSE NEIGHBOUR: 'it returns false'. Refute it at one input. -/
def fnBeltRoomWrong : ChangeSpec := { name := "fnBeltRoom", fn := fun _ => fun
  | [d] => { results := [.lit (.bool false)], args := [d] }
  | _ => none }
def FnBeltRoomWrongFalsely : Prop := fnBeltRoomRow.holds Try.pinned (OpenSpec.ofChange fnBeltRoomWrong)

/-- 'laws.FnBeltEnters': WHATEVER THE INPUT: true; the input reads as it did. -/
def fnBeltEntersSpec : ChangeSpec := { name := "fnBeltEnters", fn := fun _ => fun
  | [d] => { results := [.lit (.bool true)], args := [d] }
  | _ => none }
def fnBeltEntersRow : OpenClaim := { program := "ytopkdkehkdhmgab", sum := "a97fa2535464b58c241870dffedfe55d7ad21d59acb5082299328c4ccbd80dbe", func := "loop.example/g03319/laws.FnBeltEnters", spec := "fnBeltEnters", unfollowed := true, recurses := true, apart := false }
def FnBeltEntersSaid : Prop := fnBeltEntersRow.holds Try.pinned (OpenSpec.ofChange fnBeltEntersSpec)

/-- ITS FALSE NEIGHBOUR: 'it returns false'. Refute it at one input. -/
def fnBeltEntersWrong : ChangeSpec := { name := "fnBeltEnters", fn := fun _ => fun
  | [d] => { results := [.lit (.bool false)], args := [d] }
  | _ => none }
def FnBeltEntersWrongFalsely : Prop := fnBeltEntersRow.holds Try.pinned (OpenSpec.ofChange fnBeltEntersWrong)

/-- 'laws.FnWindows': WHATEVER THE INPUT: true; the input reads as it did. -/
def fnWindowsSpec : ChangeSpec := { name := "fnWindows", fn := fun _ => fun
  | [d] => { results := [.lit (.bool true)], args := [d] }
  | _ => none }
def fnWindowsRow : OpenClaim := { program := "ytopkdkehkdhmgab", sum := "a97fa2535464b58c241870dffedfe55d7ad21d59acb5082299328c4ccbd80dbe", func := "loop.example/g03319/laws.FnWindows", spec := "fnWindows", unfollowed := true, recurses := true, apart := false }
def FnWindowsSaid : Prop := fnWindowsRow.holds Try.pinned (OpenSpec.ofChange fnWindowsSpec)

/-- ITS FALSE NEIGHBOUR: 'it returns false'. Refute it at one input. -/
def fnWindowsWrong : ChangeSpec := { name := "fnWindows", fn := fun _ => fun
  | [d] => { results := [.lit (.bool false)], args := [d] }
  | _ => none }
def FnWindowsWrongFalsely : Prop := fnWindowsRow.holds Try.pinned (OpenSpec.ofChange fnWindowsWrong)

/-- 'laws.FnClamped': WHATEVER THE INPUT: true; the input reads as it did. -/
def fnClampedSpec : ChangeSpec := { name := "fnClamped", fn := fun _ => fun
  | [d] => { results := [.lit (.bool true)], args := [d] }
  | _ => none }
def fnClampedRow : OpenClaim := { program := "ytopkdkehkdhmgab", sum := "a97fa2535464b58c241870dffedfe55d7ad21d59acb5082299328c4ccbd80dbe", func := "loop.example/g03319/laws.FnClamped", spec := "fnClamped", apart := false }
def FnClampedSaid : Prop := fnClampedRow.holds Try.pinned (OpenSpec.ofChange fnClampedSpec)

/-- ITS FALSE NEIGHBOUR: 'it returns false'. Refute it at one input. -/
def fnClampedWrong : ChangeSpec := { name := "fnClamped", fn := fun _ => fun
  | [d] => { results := [.lit (.bool false)], args := [d] }
  | _ => none }
def FnClampedWrongFalsely : Prop := fnClampedRow.holds Try.pinned (OpenSpec.ofChange fnClampedWrong)

/- THE SECOND FORM. 'bulk': how many values and letters a reading holds, each counted each time it is reached (what is shared counts as often as it is met; a slice's spare places count too). A statement '..UptoSaid' is the law's where the arguments, and the package variables that the reading takes, are together of bulk at most 1048576: NARROWER than '..Said'. Prove '..Said' where nothing that the law and all that it calls make is longer than what came in: it says more and counts as full. Else prove '..UptoSaid'. A law counts once. -/
mutual
def uptoBulk {H : Type} : DataW H → Nat
  | .lit (.string bytes) => bytes.length + 1
  | .lit _ => 1
  | .nil => 1
  | .ptr d => uptoBulk d + 1
  | .slice elems spare => uptoBulkAll elems + uptoBulkAll spare + 1
  | .agg parts => uptoBulkAll parts + 1
  | .iface _ d => uptoBulk d + 1
  | .map entries => uptoBulkEntries entries + 1
  | .held _ => 1
def uptoBulkAll {H : Type} : List (DataW H) → Nat
  | [] => 0
  | d :: r => uptoBulk d + uptoBulkAll r
def uptoBulkEntries {H : Type} : List (Lit × DataW H) → Nat
  | [] => 0
  | x :: r => uptoBulkEntry x + uptoBulkEntries r
def uptoBulkEntry {H : Type} : Lit × DataW H → Nat
  | (.string bytes, d) => bytes.length + uptoBulk d + 1
  | (_, d) => uptoBulk d + 1
 end
def uptoSmall : (H : Type) → List (DataW H) → Bool := fun _ ds => decide (uptoBulkAll ds ≤ 1048576)
def OpenSpec.upto (s : _root_.Go.ChangeSpec) : _root_.Go.OpenSpec := { _root_.Go.OpenSpec.ofChange s with cond := some uptoSmall }

/-- 'laws.FnBeltMoves', WHERE WHAT IT READS IS OF BULK AT MOST 1048576: true; the input reads as it did. -/
def fnBeltMovesUptoRow : OpenClaim := { program := "ytopkdkehkdhmgab", sum := "a97fa2535464b58c241870dffedfe55d7ad21d59acb5082299328c4ccbd80dbe", func := "loop.example/g03319/laws.FnBeltMoves", spec := "fnBeltMoves", unfollowed := true, recurses := true, apart := false, narrowed := true }
def FnBeltMovesUptoSaid : Prop := fnBeltMovesUptoRow.holds Try.pinned (OpenSpec.upto fnBeltMovesSpec)

/-- 'laws.FnBeltRuns', WHERE WHAT IT READS IS OF BULK AT MOST 1048576: true; the input reads as it did. -/
def fnBeltRunsUptoRow : OpenClaim := { program := "ytopkdkehkdhmgab", sum := "a97fa2535464b58c241870dffedfe55d7ad21d59acb5082299328c4ccbd80dbe", func := "loop.example/g03319/laws.FnBeltRuns", spec := "fnBeltRuns", unfollowed := true, recurses := true, apart := false, narrowed := true }
def FnBeltRunsUptoSaid : Prop := fnBeltRunsUptoRow.holds Try.pinned (OpenSpec.upto fnBeltRunsSpec)

/-- 'laws.FnExactRun', WHERE WHAT IT READS IS OF BULK AT MOST 1048576: true; the input reads as it did. -/
def fnExactRunUptoRow : OpenClaim := { program := "ytopkdkehkdhmgab", sum := "a97fa2535464b58c241870dffedfe55d7ad21d59acb5082299328c4ccbd80dbe", func := "loop.example/g03319/laws.FnExactRun", spec := "fnExactRun", unfollowed := true, recurses := true, apart := false, narrowed := true }
def FnExactRunUptoSaid : Prop := fnExactRunUptoRow.holds Try.pinned (OpenSpec.upto fnExactRunSpec)

/-- 'laws.FnExactRoomFor', WHERE WHAT IT READS IS OF BULK AT MOST 1048576: true; the input reads as it did. -/
def fnExactRoomForUptoRow : OpenClaim := { program := "ytopkdkehkdhmgab", sum := "a97fa2535464b58c241870dffedfe55d7ad21d59acb5082299328c4ccbd80dbe", func := "loop.example/g03319/laws.FnExactRoomFor", spec := "fnExactRoomFor", unfollowed := true, recurses := true, apart := false, narrowed := true }
def FnExactRoomForUptoSaid : Prop := fnExactRoomForUptoRow.holds Try.pinned (OpenSpec.upto fnExactRoomForSpec)

/-- 'laws.FnBeltRoom', WHERE WHAT IT READS IS OF BULK AT MOST 1048576: true; the input reads as it did. -/
def fnBeltRoomUptoRow : OpenClaim := { program := "ytopkdkehkdhmgab", sum := "a97fa2535464b58c241870dffedfe55d7ad21d59acb5082299328c4ccbd80dbe", func := "loop.example/g03319/laws.FnBeltRoom", spec := "fnBeltRoom", unfollowed := true, recurses := true, apart := false, narrowed := true }
def FnBeltRoomUptoSaid : Prop := fnBeltRoomUptoRow.holds Try.pinned (OpenSpec.upto fnBeltRoomSpec)

/-- 'laws.FnBeltEnters', WHERE WHAT IT READS IS OF BULK AT MOST 1048576: true; the input reads as it did. -/
def fnBeltEntersUptoRow : OpenClaim := { program := "ytopkdkehkdhmgab", sum := "a97fa2535464b58c241870dffedfe55d7ad21d59acb5082299328c4ccbd80dbe", func := "loop.example/g03319/laws.FnBeltEnters", spec := "fnBeltEnters", unfollowed := true, recurses := true, apart := false, narrowed := true }
def FnBeltEntersUptoSaid : Prop := fnBeltEntersUptoRow.holds Try.pinned (OpenSpec.upto fnBeltEntersSpec)

/-- 'laws.FnWindows', WHERE WHAT IT READS IS OF BULK AT MOST 1048576: true; the input reads as it did. -/
def fnWindowsUptoRow : OpenClaim := { program := "ytopkdkehkdhmgab", sum := "a97fa2535464b58c241870dffedfe55d7ad21d59acb5082299328c4ccbd80dbe", func := "loop.example/g03319/laws.FnWindows", spec := "fnWindows", unfollowed := true, recurses := true, apart := false, narrowed := true }
def FnWindowsUptoSaid : Prop := fnWindowsUptoRow.holds Try.pinned (OpenSpec.upto fnWindowsSpec)

/-- 'laws.FnClamped', WHERE WHAT IT READS IS OF BULK AT MOST 1048576: true; the input reads as it did. -/
def fnClampedUptoRow : OpenClaim := { program := "ytopkdkehkdhmgab", sum := "a97fa2535464b58c241870dffedfe55d7ad21d59acb5082299328c4ccbd80dbe", func := "loop.example/g03319/laws.FnClamped", spec := "fnClamped", apart := false, narrowed := true }
def FnClampedUptoSaid : Prop := fnClampedUptoRow.holds Try.pinned (OpenSpec.upto fnClampedSpec)

end Rows
end Go.Proofs.Ytopkdkehkdhmgab
