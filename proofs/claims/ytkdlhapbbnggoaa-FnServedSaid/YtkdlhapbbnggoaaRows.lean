/-
  No cell of these rows narrows 'for every input' (looked for: loops, veiled, ifaces, maps, wideKeys, modest, calm, conditions, laid).
  DERIVED. THE GIVEN ROWS OF THIS SEAT. 12 by the template 'for every input the law returns true; each argument reads behind the call as it read before'; 0 by the template 'total and deterministic' (their statements: YtkdlhapbbnggoaaTotals.lean).
  GIVEN WITH THE SEED: the statements are not yours to turn. If you find one false, say at which input.
  Laid BY PROGRAM, IN A SANDBOX (cutbox-rows.mjs): the forced cells as the released guide's own fill.sh prints them over the translation 617517c9375244b7… (all of the seat's roots in one cut). By AI agents, Wed Nov 11 2026. No macro, syntax, notation, axiom, sorry.
-/
import Derived.Test.YtkdlhapbbnggoaaChecked
import GoSem.Claim
import GoSem.ClaimJoined
import GoSem.ClaimMapViews
import Derived.JoinedTies
import Derived.KernelRfl
namespace Go.Proofs.Ytkdlhapbbnggoaa
/- THE CELL 'sum', in the pinned program and in every row, IS THE sha256 OF THE DUMP (.gsa) THAT YtkdlhapbbnggoaaProg.lean LOADS. Nothing in Lean hashes anything: it is a label: what it is worth is what the hold of that sum in a sandbox is worth. -/
noncomputable def Try.pinned : Pinned := { name := "ytkdlhapbbnggoaa", sum := "617517c9375244b7e2280462deb85949d0dea298efac6ceb5eddb9a0500c2615", checked := Try.checked }
namespace Rows
def none {H : Type} : Left H := { results := [], args := [] }

/-- 'laws.FnExactPolicyOk': WHATEVER THE INPUT: true; the input reads as it did. -/
def fnExactPolicyOkSpec : ChangeSpec := { name := "fnExactPolicyOk", fn := fun _ => fun
  | [d] => { results := [.lit (.bool true)], args := [d] }
  | _ => none }
def fnExactPolicyOkRow : OpenClaim := { program := "ytkdlhapbbnggoaa", sum := "617517c9375244b7e2280462deb85949d0dea298efac6ceb5eddb9a0500c2615", func := "loop.example/g03319/laws.FnExactPolicyOk", spec := "fnExactPolicyOk", apart := false }
def FnExactPolicyOkSaid : Prop := fnExactPolicyOkRow.holds Try.pinned (OpenSpec.ofChange fnExactPolicyOkSpec)

/-- ITS FALSE NEIGHBOUR: 'it returns false'. Refute it at one input. -/
def fnExactPolicyOkWrong : ChangeSpec := { name := "fnExactPolicyOk", fn := fun _ => fun
  | [d] => { results := [.lit (.bool false)], args := [d] }
  | _ => none }
def FnExactPolicyOkWrongFalsely : Prop := fnExactPolicyOkRow.holds Try.pinned (OpenSpec.ofChange fnExactPolicyOkWrong)

/-- 'laws.FnExactScreenOk': WHATEVER THE INPUT: true; the input reads as it did. -/
def fnExactScreenOkSpec : ChangeSpec := { name := "fnExactScreenOk", fn := fun _ => fun
  | [d] => { results := [.lit (.bool true)], args := [d] }
  | _ => none }
def fnExactScreenOkRow : OpenClaim := { program := "ytkdlhapbbnggoaa", sum := "617517c9375244b7e2280462deb85949d0dea298efac6ceb5eddb9a0500c2615", func := "loop.example/g03319/laws.FnExactScreenOk", spec := "fnExactScreenOk", apart := false }
def FnExactScreenOkSaid : Prop := fnExactScreenOkRow.holds Try.pinned (OpenSpec.ofChange fnExactScreenOkSpec)

/-- ITS FALSE NEIGHBOUR: 'it returns false'. Refute it at one input. -/
def fnExactScreenOkWrong : ChangeSpec := { name := "fnExactScreenOk", fn := fun _ => fun
  | [d] => { results := [.lit (.bool false)], args := [d] }
  | _ => none }
def FnExactScreenOkWrongFalsely : Prop := fnExactScreenOkRow.holds Try.pinned (OpenSpec.ofChange fnExactScreenOkWrong)

/-- 'laws.FnExactElapse': WHATEVER THE INPUT: true; the input reads as it did. -/
def fnExactElapseSpec : ChangeSpec := { name := "fnExactElapse", fn := fun _ => fun
  | [d1, d2, d3] => { results := [.lit (.bool true)], args := [d1, d2, d3] }
  | _ => none }
def fnExactElapseRow : OpenClaim := { program := "ytkdlhapbbnggoaa", sum := "617517c9375244b7e2280462deb85949d0dea298efac6ceb5eddb9a0500c2615", func := "loop.example/g03319/laws.FnExactElapse", spec := "fnExactElapse", apart := false }
def FnExactElapseSaid : Prop := fnExactElapseRow.holds Try.pinned (OpenSpec.ofChange fnExactElapseSpec)

/-- ITS FALSE NEIGHBOUR: 'it returns false'. Refute it at one input. -/
def fnExactElapseWrong : ChangeSpec := { name := "fnExactElapse", fn := fun _ => fun
  | [d1, d2, d3] => { results := [.lit (.bool false)], args := [d1, d2, d3] }
  | _ => none }
def FnExactElapseWrongFalsely : Prop := fnExactElapseRow.holds Try.pinned (OpenSpec.ofChange fnExactElapseWrong)

/-- 'laws.FnExactDecide': WHATEVER THE INPUT: true; the input reads as it did. -/
def fnExactDecideSpec : ChangeSpec := { name := "fnExactDecide", fn := fun _ => fun
  | [d1, d2, d3, d4] => { results := [.lit (.bool true)], args := [d1, d2, d3, d4] }
  | _ => none }
def fnExactDecideRow : OpenClaim := { program := "ytkdlhapbbnggoaa", sum := "617517c9375244b7e2280462deb85949d0dea298efac6ceb5eddb9a0500c2615", func := "loop.example/g03319/laws.FnExactDecide", spec := "fnExactDecide", unfollowed := true, recurses := true, apart := false }
def FnExactDecideSaid : Prop := fnExactDecideRow.holds Try.pinned (OpenSpec.ofChange fnExactDecideSpec)

/-- ITS FALSE NEIGHBOUR: 'it returns false'. Refute it at one input. -/
def fnExactDecideWrong : ChangeSpec := { name := "fnExactDecide", fn := fun _ => fun
  | [d1, d2, d3, d4] => { results := [.lit (.bool false)], args := [d1, d2, d3, d4] }
  | _ => none }
def FnExactDecideWrongFalsely : Prop := fnExactDecideRow.holds Try.pinned (OpenSpec.ofChange fnExactDecideWrong)

/-- 'laws.FnExactHandTime': WHATEVER THE INPUT: true; the input reads as it did. -/
def fnExactHandTimeSpec : ChangeSpec := { name := "fnExactHandTime", fn := fun _ => fun
  | [d1, d2] => { results := [.lit (.bool true)], args := [d1, d2] }
  | _ => none }
def fnExactHandTimeRow : OpenClaim := { program := "ytkdlhapbbnggoaa", sum := "617517c9375244b7e2280462deb85949d0dea298efac6ceb5eddb9a0500c2615", func := "loop.example/g03319/laws.FnExactHandTime", spec := "fnExactHandTime", apart := false }
def FnExactHandTimeSaid : Prop := fnExactHandTimeRow.holds Try.pinned (OpenSpec.ofChange fnExactHandTimeSpec)

/-- ITS FALSE NEIGHBOUR: 'it returns false'. Refute it at one input. -/
def fnExactHandTimeWrong : ChangeSpec := { name := "fnExactHandTime", fn := fun _ => fun
  | [d1, d2] => { results := [.lit (.bool false)], args := [d1, d2] }
  | _ => none }
def FnExactHandTimeWrongFalsely : Prop := fnExactHandTimeRow.holds Try.pinned (OpenSpec.ofChange fnExactHandTimeWrong)

/-- 'laws.FnExactImagesOk': WHATEVER THE INPUT: true; the input reads as it did. -/
def fnExactImagesOkSpec : ChangeSpec := { name := "fnExactImagesOk", fn := fun _ => fun
  | [d] => { results := [.lit (.bool true)], args := [d] }
  | _ => none }
def fnExactImagesOkRow : OpenClaim := { program := "ytkdlhapbbnggoaa", sum := "617517c9375244b7e2280462deb85949d0dea298efac6ceb5eddb9a0500c2615", func := "loop.example/g03319/laws.FnExactImagesOk", spec := "fnExactImagesOk", apart := false }
def FnExactImagesOkSaid : Prop := fnExactImagesOkRow.holds Try.pinned (OpenSpec.ofChange fnExactImagesOkSpec)

/-- ITS FALSE NEIGHBOUR: 'it returns false'. Refute it at one input. -/
def fnExactImagesOkWrong : ChangeSpec := { name := "fnExactImagesOk", fn := fun _ => fun
  | [d] => { results := [.lit (.bool false)], args := [d] }
  | _ => none }
def FnExactImagesOkWrongFalsely : Prop := fnExactImagesOkRow.holds Try.pinned (OpenSpec.ofChange fnExactImagesOkWrong)

/-- 'laws.FnExactServe': WHATEVER THE INPUT: true; the input reads as it did. -/
def fnExactServeSpec : ChangeSpec := { name := "fnExactServe", fn := fun _ => fun
  | [d1, d2, d3] => { results := [.lit (.bool true)], args := [d1, d2, d3] }
  | _ => none }
def fnExactServeRow : OpenClaim := { program := "ytkdlhapbbnggoaa", sum := "617517c9375244b7e2280462deb85949d0dea298efac6ceb5eddb9a0500c2615", func := "loop.example/g03319/laws.FnExactServe", spec := "fnExactServe", apart := false }
def FnExactServeSaid : Prop := fnExactServeRow.holds Try.pinned (OpenSpec.ofChange fnExactServeSpec)

/-- ITS FALSE NEIGHBOUR: 'it returns false'. Refute it at one input. -/
def fnExactServeWrong : ChangeSpec := { name := "fnExactServe", fn := fun _ => fun
  | [d1, d2, d3] => { results := [.lit (.bool false)], args := [d1, d2, d3] }
  | _ => none }
def FnExactServeWrongFalsely : Prop := fnExactServeRow.holds Try.pinned (OpenSpec.ofChange fnExactServeWrong)

/-- 'laws.FnExactDropped': WHATEVER THE INPUT: true; the input reads as it did. -/
def fnExactDroppedSpec : ChangeSpec := { name := "fnExactDropped", fn := fun _ => fun
  | [d1, d2, d3] => { results := [.lit (.bool true)], args := [d1, d2, d3] }
  | _ => none }
def fnExactDroppedRow : OpenClaim := { program := "ytkdlhapbbnggoaa", sum := "617517c9375244b7e2280462deb85949d0dea298efac6ceb5eddb9a0500c2615", func := "loop.example/g03319/laws.FnExactDropped", spec := "fnExactDropped", apart := false }
def FnExactDroppedSaid : Prop := fnExactDroppedRow.holds Try.pinned (OpenSpec.ofChange fnExactDroppedSpec)

/-- ITS FALSE NEIGHBOUR: 'it returns false'. Refute it at one input. -/
def fnExactDroppedWrong : ChangeSpec := { name := "fnExactDropped", fn := fun _ => fun
  | [d1, d2, d3] => { results := [.lit (.bool false)], args := [d1, d2, d3] }
  | _ => none }
def FnExactDroppedWrongFalsely : Prop := fnExactDroppedRow.holds Try.pinned (OpenSpec.ofChange fnExactDroppedWrong)

/-- 'laws.FnExactLeastStaff': WHATEVER THE INPUT: true; the input reads as it did. -/
def fnExactLeastStaffSpec : ChangeSpec := { name := "fnExactLeastStaff", fn := fun _ => fun
  | [d1, d2] => { results := [.lit (.bool true)], args := [d1, d2] }
  | _ => none }
def fnExactLeastStaffRow : OpenClaim := { program := "ytkdlhapbbnggoaa", sum := "617517c9375244b7e2280462deb85949d0dea298efac6ceb5eddb9a0500c2615", func := "loop.example/g03319/laws.FnExactLeastStaff", spec := "fnExactLeastStaff", apart := false }
def FnExactLeastStaffSaid : Prop := fnExactLeastStaffRow.holds Try.pinned (OpenSpec.ofChange fnExactLeastStaffSpec)

/-- ITS FALSE NEIGHBOUR: 'it returns false'. Refute it at one input. -/
def fnExactLeastStaffWrong : ChangeSpec := { name := "fnExactLeastStaff", fn := fun _ => fun
  | [d1, d2] => { results := [.lit (.bool false)], args := [d1, d2] }
  | _ => none }
def FnExactLeastStaffWrongFalsely : Prop := fnExactLeastStaffRow.holds Try.pinned (OpenSpec.ofChange fnExactLeastStaffWrong)

/-- 'laws.FnExactMostServed': WHATEVER THE INPUT: true; the input reads as it did. -/
def fnExactMostServedSpec : ChangeSpec := { name := "fnExactMostServed", fn := fun _ => fun
  | [d1, d2, d3] => { results := [.lit (.bool true)], args := [d1, d2, d3] }
  | _ => none }
def fnExactMostServedRow : OpenClaim := { program := "ytkdlhapbbnggoaa", sum := "617517c9375244b7e2280462deb85949d0dea298efac6ceb5eddb9a0500c2615", func := "loop.example/g03319/laws.FnExactMostServed", spec := "fnExactMostServed", apart := false }
def FnExactMostServedSaid : Prop := fnExactMostServedRow.holds Try.pinned (OpenSpec.ofChange fnExactMostServedSpec)

/-- ITS FALSE NEIGHBOUR: 'it returns false'. Refute it at one input. -/
def fnExactMostServedWrong : ChangeSpec := { name := "fnExactMostServed", fn := fun _ => fun
  | [d1, d2, d3] => { results := [.lit (.bool false)], args := [d1, d2, d3] }
  | _ => none }
def FnExactMostServedWrongFalsely : Prop := fnExactMostServedRow.holds Try.pinned (OpenSpec.ofChange fnExactMostServedWrong)

/-- 'laws.FnStaff': WHATEVER THE INPUT: true; the input reads as it did. -/
def fnStaffSpec : ChangeSpec := { name := "fnStaff", fn := fun _ => fun
  | [d] => { results := [.lit (.bool true)], args := [d] }
  | _ => none }
def fnStaffRow : OpenClaim := { program := "ytkdlhapbbnggoaa", sum := "617517c9375244b7e2280462deb85949d0dea298efac6ceb5eddb9a0500c2615", func := "loop.example/g03319/laws.FnStaff", spec := "fnStaff", apart := false }
def FnStaffSaid : Prop := fnStaffRow.holds Try.pinned (OpenSpec.ofChange fnStaffSpec)

/-- ITS FALSE NEIGHBOUR: 'it returns false'. Refute it at one input. -/
def fnStaffWrong : ChangeSpec := { name := "fnStaff", fn := fun _ => fun
  | [d] => { results := [.lit (.bool false)], args := [d] }
  | _ => none }
def FnStaffWrongFalsely : Prop := fnStaffRow.holds Try.pinned (OpenSpec.ofChange fnStaffWrong)

/-- 'laws.FnServed': WHATEVER THE INPUT: true; the input reads as it did. -/
def fnServedSpec : ChangeSpec := { name := "fnServed", fn := fun _ => fun
  | [d] => { results := [.lit (.bool true)], args := [d] }
  | _ => none }
def fnServedRow : OpenClaim := { program := "ytkdlhapbbnggoaa", sum := "617517c9375244b7e2280462deb85949d0dea298efac6ceb5eddb9a0500c2615", func := "loop.example/g03319/laws.FnServed", spec := "fnServed", apart := false }
def FnServedSaid : Prop := fnServedRow.holds Try.pinned (OpenSpec.ofChange fnServedSpec)

/-- ITS FALSE NEIGHBOUR: 'it returns false'. Refute it at one input. -/
def fnServedWrong : ChangeSpec := { name := "fnServed", fn := fun _ => fun
  | [d] => { results := [.lit (.bool false)], args := [d] }
  | _ => none }
def FnServedWrongFalsely : Prop := fnServedRow.holds Try.pinned (OpenSpec.ofChange fnServedWrong)

/- THE SECOND FORM. 'bulk': how many values and letters a reading holds, each counted each time it is reached (what is shared counts as often as it is met; a slice's spare places count too). A statement '..UptoSaid' is the law's where the arguments, and the package variables that the reading takes, are together of bulk at most 1048576: NARROWER than '..Said'. Prove '..Said' where nothing that the law and all that it calls make is longer than what came in: it says more and counts as full. Else prove '..UptoSaid'. A law counts once. -/
mutual
def uptoBulk {H : Type} : DataW H → Nat
  | .lit (.string bytes) => bytes.length + 1
  | .lit _ => 1
  | .nil => 1
  | .ptr d => uptoBulk d + 1
  | .slice elems spare => uptoBulkAll elems + uptoBulkAll spare + 1
  | .agg parts => uptoBulkAll parts + 1
  | .iface _ d => uptoBulk d + 1
  | .map entries => uptoBulkEntries entries + 1
  | .held _ => 1
def uptoBulkAll {H : Type} : List (DataW H) → Nat
  | [] => 0
  | d :: r => uptoBulk d + uptoBulkAll r
def uptoBulkEntries {H : Type} : List (Lit × DataW H) → Nat
  | [] => 0
  | x :: r => uptoBulkEntry x + uptoBulkEntries r
def uptoBulkEntry {H : Type} : Lit × DataW H → Nat
  | (.string bytes, d) => bytes.length + uptoBulk d + 1
  | (_, d) => uptoBulk d + 1
 end
def uptoSmall : (H : Type) → List (DataW H) → Bool := fun _ ds => decide (uptoBulkAll ds ≤ 1048576)
def OpenSpec.upto (s : _root_.Go.ChangeSpec) : _root_.Go.OpenSpec := { _root_.Go.OpenSpec.ofChange s with cond := some uptoSmall }

/-- 'laws.FnExactPolicyOk', WHERE WHAT IT READS IS OF BULK AT MOST 1048576: true; the input reads as it did. -/
def fnExactPolicyOkUptoRow : OpenClaim := { program := "ytkdlhapbbnggoaa", sum := "617517c9375244b7e2280462deb85949d0dea298efac6ceb5eddb9a0500c2615", func := "loop.example/g03319/laws.FnExactPolicyOk", spec := "fnExactPolicyOk", apart := false, narrowed := true }
def FnExactPolicyOkUptoSaid : Prop := fnExactPolicyOkUptoRow.holds Try.pinned (OpenSpec.upto fnExactPolicyOkSpec)

/-- 'laws.FnExactScreenOk', WHERE WHAT IT READS IS OF BULK AT MOST 1048576: true; the input reads as it did. -/
def fnExactScreenOkUptoRow : OpenClaim := { program := "ytkdlhapbbnggoaa", sum := "617517c9375244b7e2280462deb85949d0dea298efac6ceb5eddb9a0500c2615", func := "loop.example/g03319/laws.FnExactScreenOk", spec := "fnExactScreenOk", apart := false, narrowed := true }
def FnExactScreenOkUptoSaid : Prop := fnExactScreenOkUptoRow.holds Try.pinned (OpenSpec.upto fnExactScreenOkSpec)

/-- 'laws.FnExactElapse', WHERE WHAT IT READS IS OF BULK AT MOST 1048576: true; the input reads as it did. -/
def fnExactElapseUptoRow : OpenClaim := { program := "ytkdlhapbbnggoaa", sum := "617517c9375244b7e2280462deb85949d0dea298efac6ceb5eddb9a0500c2615", func := "loop.example/g03319/laws.FnExactElapse", spec := "fnExactElapse", apart := false, narrowed := true }
def FnExactElapseUptoSaid : Prop := fnExactElapseUptoRow.holds Try.pinned (OpenSpec.upto fnExactElapseSpec)

/-- 'laws.FnExactDecide', WHERE WHAT IT READS IS OF BULK AT MOST 1048576: true; the input reads as it did. -/
def fnExactDecideUptoRow : OpenClaim := { program := "ytkdlhapbbnggoaa", sum := "617517c9375244b7e2280462deb85949d0dea298efac6ceb5eddb9a0500c2615", func := "loop.example/g03319/laws.FnExactDecide", spec := "fnExactDecide", unfollowed := true, recurses := true, apart := false, narrowed := true }
def FnExactDecideUptoSaid : Prop := fnExactDecideUptoRow.holds Try.pinned (OpenSpec.upto fnExactDecideSpec)

/-- 'laws.FnExactHandTime', WHERE WHAT IT READS IS OF BULK AT MOST 1048576: true; the input reads as it did. -/
def fnExactHandTimeUptoRow : OpenClaim := { program := "ytkdlhapbbnggoaa", sum := "617517c9375244b7e2280462deb85949d0dea298efac6ceb5eddb9a0500c2615", func := "loop.example/g03319/laws.FnExactHandTime", spec := "fnExactHandTime", apart := false, narrowed := true }
def FnExactHandTimeUptoSaid : Prop := fnExactHandTimeUptoRow.holds Try.pinned (OpenSpec.upto fnExactHandTimeSpec)

/-- 'laws.FnExactImagesOk', WHERE WHAT IT READS IS OF BULK AT MOST 1048576: true; the input reads as it did. -/
def fnExactImagesOkUptoRow : OpenClaim := { program := "ytkdlhapbbnggoaa", sum := "617517c9375244b7e2280462deb85949d0dea298efac6ceb5eddb9a0500c2615", func := "loop.example/g03319/laws.FnExactImagesOk", spec := "fnExactImagesOk", apart := false, narrowed := true }
def FnExactImagesOkUptoSaid : Prop := fnExactImagesOkUptoRow.holds Try.pinned (OpenSpec.upto fnExactImagesOkSpec)

/-- 'laws.FnExactServe', WHERE WHAT IT READS IS OF BULK AT MOST 1048576: true; the input reads as it did. -/
def fnExactServeUptoRow : OpenClaim := { program := "ytkdlhapbbnggoaa", sum := "617517c9375244b7e2280462deb85949d0dea298efac6ceb5eddb9a0500c2615", func := "loop.example/g03319/laws.FnExactServe", spec := "fnExactServe", apart := false, narrowed := true }
def FnExactServeUptoSaid : Prop := fnExactServeUptoRow.holds Try.pinned (OpenSpec.upto fnExactServeSpec)

/-- 'laws.FnExactDropped', WHERE WHAT IT READS IS OF BULK AT MOST 1048576: true; the input reads as it did. -/
def fnExactDroppedUptoRow : OpenClaim := { program := "ytkdlhapbbnggoaa", sum := "617517c9375244b7e2280462deb85949d0dea298efac6ceb5eddb9a0500c2615", func := "loop.example/g03319/laws.FnExactDropped", spec := "fnExactDropped", apart := false, narrowed := true }
def FnExactDroppedUptoSaid : Prop := fnExactDroppedUptoRow.holds Try.pinned (OpenSpec.upto fnExactDroppedSpec)

/-- 'laws.FnExactLeastStaff', WHERE WHAT IT READS IS OF BULK AT MOST 1048576: true; the input reads as it did. -/
def fnExactLeastStaffUptoRow : OpenClaim := { program := "ytkdlhapbbnggoaa", sum := "617517c9375244b7e2280462deb85949d0dea298efac6ceb5eddb9a0500c2615", func := "loop.example/g03319/laws.FnExactLeastStaff", spec := "fnExactLeastStaff", apart := false, narrowed := true }
def FnExactLeastStaffUptoSaid : Prop := fnExactLeastStaffUptoRow.holds Try.pinned (OpenSpec.upto fnExactLeastStaffSpec)

/-- 'laws.FnExactMostServed', WHERE WHAT IT READS IS OF BULK AT MOST 1048576: true; the input reads as it did. -/
def fnExactMostServedUptoRow : OpenClaim := { program := "ytkdlhapbbnggoaa", sum := "617517c9375244b7e2280462deb85949d0dea298efac6ceb5eddb9a0500c2615", func := "loop.example/g03319/laws.FnExactMostServed", spec := "fnExactMostServed", apart := false, narrowed := true }
def FnExactMostServedUptoSaid : Prop := fnExactMostServedUptoRow.holds Try.pinned (OpenSpec.upto fnExactMostServedSpec)

/-- 'laws.FnStaff', WHERE WHAT IT READS IS OF BULK AT MOST 1048576: true; the input reads as it did. -/
def fnStaffUptoRow : OpenClaim := { program := "ytkdlhapbbnggoaa", sum := "617517c9375244b7e2280462deb85949d0dea298efac6ceb5eddb9a0500c2615", func := "loop.example/g03319/laws.FnStaff", spec := "fnStaff", apart := false, narrowed := true }
def FnStaffUptoSaid : Prop := fnStaffUptoRow.holds Try.pinned (OpenSpec.upto fnStaffSpec)

/-- 'laws.FnServed', WHERE WHAT IT READS IS OF BULK AT MOST 1048576: true; the input reads as it did. -/
def fnServedUptoRow : OpenClaim := { program := "ytkdlhapbbnggoaa", sum := "617517c9375244b7e2280462deb85949d0dea298efac6ceb5eddb9a0500c2615", func := "loop.example/g03319/laws.FnServed", spec := "fnServed", apart := false, narrowed := true }
def FnServedUptoSaid : Prop := fnServedUptoRow.holds Try.pinned (OpenSpec.upto fnServedSpec)

end Rows
end Go.Proofs.Ytkdlhapbbnggoaa
