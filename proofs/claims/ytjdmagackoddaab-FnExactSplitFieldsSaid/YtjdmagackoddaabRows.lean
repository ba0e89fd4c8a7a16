/-
  No cell of these rows narrows 'for every input' (looked for: loops, veiled, ifaces, maps, wideKeys, modest, calm, conditions, laid).
  DERIVED. THE GIVEN ROWS OF THIS SEAT. 5 by the template 'for every input the law returns true; each argument reads behind the call as it read before'; 0 by the template 'total and deterministic' (their statements: YtjdmagackoddaabTotals.lean).
  GIVEN WITH THE SEED: the statements are not yours to turn. If you find one false, say at which input.
  Laid BY PROGRAM, IN A SANDBOX (cutbox-rows.mjs): the forced cells as the released guide's own fill.sh prints them over the translation 4718d4f94b397c22… (all of the seat's roots in one cut). By AI agents, Wed Nov 11 2026. No macro, syntax, notation, axiom, sorry.
-/
import Derived.Test.YtjdmagackoddaabChecked
import GoSem.Claim
import GoSem.ClaimJoined
import GoSem.ClaimMapViews
import Derived.JoinedTies
import Derived.KernelRfl
namespace Go.Proofs.Ytjdmagackoddaab
/- THE CELL 'sum', in the pinned program and in every row, IS THE sha256 OF THE DUMP (.gsa) THAT YtjdmagackoddaabProg.lean LOADS. Nothing in Lean hashes anything: it is a label: what it is worth is what the hold of that sum in a sandbox is worth. -/
noncomputable def Try.pinned : Pinned := { name := "ytjdmagackoddaab", sum := "4718d4f94b397c22860e26518f12361ce0fcfcb6d69000b1cce595c3b45dd6ad", checked := Try.checked }
namespace Rows
def none {H : Type} : Left H := { results := [], args := [] }

/-- 'laws.FnExactSplitFields': WHATEVER THE INPUT: true; the input reads as it did. -/
def fnExactSplitFieldsSpec : ChangeSpec := { name := "fnExactSplitFields", fn := fun _ => fun
  | [d] => { results := [.lit (.bool true)], args := [d] }
  | _ => none }
def fnExactSplitFieldsRow : OpenClaim := { program := "ytjdmagackoddaab", sum := "4718d4f94b397c22860e26518f12361ce0fcfcb6d69000b1cce595c3b45dd6ad", func := "loop.example/g03319/laws.FnExactSplitFields", spec := "fnExactSplitFields", apart := false }
def FnExactSplitFieldsSaid : Prop := fnExactSplitFieldsRow.holds Try.pinned (OpenSpec.ofChange fnExactSplitFieldsSpec)

/-- ITS FALSE NEIGHBOUR: 'it returns false'. Refute it at one input. -/
def fnExactSplitFieldsWrong : ChangeSpec := { name := "fnExactSplitFields", fn := fun _ => fun
  | [d] => { results := [.lit (.bool false)], args := [d] }
  | _ => none }
def FnExactSplitFieldsWrongFalsely : Prop := fnExactSplitFieldsRow.holds Try.pinned (OpenSpec.ofChange fnExactSplitFieldsWrong)

/-- 'laws.FnExactClamp': WHATEVER THE INPUT: true; the input reads as it did. -/
def fnExactClampSpec : ChangeSpec := { name := "fnExactClamp", fn := fun _ => fun
  | [d1, d2, d3] => { results := [.lit (.bool true)], args := [d1, d2, d3] }
  | _ => none }
def fnExactClampRow : OpenClaim := { program := "ytjdmagackoddaab", sum := "4718d4f94b397c22860e26518f12361ce0fcfcb6d69000b1cce595c3b45dd6ad", func := "loop.example/g03319/laws.FnExactClamp", spec := "fnExactClamp", apart := false }
def FnExactClampSaid : Prop := fnExactClampRow.holds Try.pinned (OpenSpec.ofChange fnExactClampSpec)

/-- ITS FALSE NEIGHBOUR: 'it returns false'. Refute it at one input. -/
def fnExactClampWrong : ChangeSpec := { name := "fnExactClamp", fn := fun _ => fun
  | [d1, d2, d3] => { results := [.lit (.bool false)], args := [d1, d2, d3] }
  | _ => none }
def FnExactClampWrongFalsely : Prop := fnExactClampRow.holds Try.pinned (OpenSpec.ofChange fnExactClampWrong)

/-- 'laws.FnExactTagOk': WHATEVER THE INPUT: true; the input reads as it did. -/
def fnExactTagOkSpec : ChangeSpec := { name := "fnExactTagOk", fn := fun _ => fun
  | [d] => { results := [.lit (.bool true)], args := [d] }
  | _ => none }
def fnExactTagOkRow : OpenClaim := { program := "ytjdmagackoddaab", sum := "4718d4f94b397c22860e26518f12361ce0fcfcb6d69000b1cce595c3b45dd6ad", func := "loop.example/g03319/laws.FnExactTagOk", spec := "fnExactTagOk", apart := false }
def FnExactTagOkSaid : Prop := fnExactTagOkRow.holds Try.pinned (OpenSpec.ofChange fnExactTagOkSpec)

/-- ITS FALSE NEIGHBOUR: 'it returns false'. Refute it at one input. -/
def fnExactTagOkWrong : ChangeSpec := { name := "fnExactTagOk", fn := fun _ => fun
  | [d] => { results := [.lit (.bool false)], args := [d] }
  | _ => none }
def FnExactTagOkWrongFalsely : Prop := fnExactTagOkRow.holds Try.pinned (OpenSpec.ofChange fnExactTagOkWrong)

/-- 'laws.FnExactTagNumber': WHATEVER THE INPUT: true; the input reads as it did. -/
def fnExactTagNumberSpec : ChangeSpec := { name := "fnExactTagNumber", fn := fun _ => fun
  | [d] => { results := [.lit (.bool true)], args := [d] }
  | _ => none }
def fnExactTagNumberRow : OpenClaim := { program := "ytjdmagackoddaab", sum := "4718d4f94b397c22860e26518f12361ce0fcfcb6d69000b1cce595c3b45dd6ad", func := "loop.example/g03319/laws.FnExactTagNumber", spec := "fnExactTagNumber", apart := false }
def FnExactTagNumberSaid : Prop := fnExactTagNumberRow.holds Try.pinned (OpenSpec.ofChange fnExactTagNumberSpec)

/-- ITS FALSE NEIGHBOUR: 'it returns false'. Refute it at one input. -/
def fnExactTagNumberWrong : ChangeSpec := { name := "fnExactTagNumber", fn := fun _ => fun
  | [d] => { results := [.lit (.bool false)], args := [d] }
  | _ => none }
def FnExactTagNumberWrongFalsely : Prop := fnExactTagNumberRow.holds Try.pinned (OpenSpec.ofChange fnExactTagNumberWrong)

/-- 'laws.FnExactTagCheck': WHATEVER THE INPUT: true; the input reads as it did. -/
def fnExactTagCheckSpec : ChangeSpec := { name := "fnExactTagCheck", fn := fun _ => fun
  | [d] => { results := [.lit (.bool true)], args := [d] }
  | _ => none }
def fnExactTagCheckRow : OpenClaim := { program := "ytjdmagackoddaab", sum := "4718d4f94b397c22860e26518f12361ce0fcfcb6d69000b1cce595c3b45dd6ad", func := "loop.example/g03319/laws.FnExactTagCheck", spec := "fnExactTagCheck", apart := false }
def FnExactTagCheckSaid : Prop := fnExactTagCheckRow.holds Try.pinned (OpenSpec.ofChange fnExactTagCheckSpec)

/-- ITS FALSE NEIGHBOUR: 'it returns false'. Refute it at one input. -/
def fnExactTagCheckWrong : ChangeSpec := { name := "fnExactTagCheck", fn := fun _ => fun
  | [d] => { results := [.lit (.bool false)], args := [d] }
  | _ => none }
def FnExactTagCheckWrongFalsely : Prop := fnExactTagCheckRow.holds Try.pinned (OpenSpec.ofChange fnExactTagCheckWrong)

/- THE SECOND FORM. 'bulk': how many values and letters a reading holds, each counted each time it is reached (what is shared counts as often as it is met; a slice's spare places count too). A statement '..UptoSaid' is the law's where the arguments, and the package variables that the reading takes, are together of bulk at most 1048576: NARROWER than '..Said'. Prove '..Said' where nothing that the law and all that it calls make is longer than what came in: it says more and counts as full. Else prove '..UptoSaid'. A law counts once. -/
mutual
def uptoBulk {H : Type} : DataW H → Nat
  | .lit (.string bytes) => bytes.length + 1
  | .lit _ => 1
  | .nil => 1
  | .ptr d => uptoBulk d + 1
  | .slice elems spare => uptoBulkAll elems + uptoBulkAll spare + 1
  | .agg parts => uptoBulkAll parts + 1
  | .iface _ d => uptoBulk d + 1
  | .map entries => uptoBulkEntries entries + 1
  | .held _ => 1
def uptoBulkAll {H : Type} : List (DataW H) → Nat
  | [] => 0
  | d :: r => uptoBulk d + uptoBulkAll r
def uptoBulkEntries {H : Type} : List (Lit × DataW H) → Nat
  | [] => 0
  | x :: r => uptoBulkEntry x + uptoBulkEntries r
def uptoBulkEntry {H : Type} : Lit × DataW H → Nat
  | (.string bytes, d) => bytes.length + uptoBulk d + 1
  | (_, d) => uptoBulk d + 1
 end
def uptoSmall : (H : Type) → List (DataW H) → Bool := fun _ ds => decide (uptoBulkAll ds ≤ 1048576)
def OpenSpec.upto (s : _root_.Go.ChangeSpec) : _root_.Go.OpenSpec := { _root_.Go.OpenSpec.ofChange s with cond := some uptoSmall }

/-- 'laws.FnExactSplitFields', WHERE WHAT IT READS IS OF BULK AT MOST 1048576: true; the input reads as it did. -/
def fnExactSplitFieldsUptoRow : OpenClaim := { program := "ytjdmagackoddaab", sum := "4718d4f94b397c22860e26518f12361ce0fcfcb6d69000b1cce595c3b45dd6ad", func := "loop.example/g03319/laws.FnExactSplitFields", spec := "fnExactSplitFields", apart := false, narrowed := true }
def FnExactSplitFieldsUptoSaid : Prop := fnExactSplitFieldsUptoRow.holds Try.pinned (OpenSpec.upto fnExactSplitFieldsSpec)

/-- 'laws.FnExactClamp', WHERE WHAT IT READS IS OF BULK AT MOST 1048576: true; the input reads as it did. -/
def fnExactClampUptoRow : OpenClaim := { program := "ytjdmagackoddaab", sum := "4718d4f94b397c22860e26518f12361ce0fcfcb6d69000b1cce595c3b45dd6ad", func := "loop.example/g03319/laws.FnExactClamp", spec := "fnExactClamp", apart := false, narrowed := true }
def FnExactClampUptoSaid : Prop := fnExactClampUptoRow.holds Try.pinned (OpenSpec.upto fnExactClampSpec)

/-- 'laws.FnExactTagOk', WHERE WHAT IT READS IS OF BULK AT MOST 1048576: true; the input reads as it did. -/
def fnExactTagOkUptoRow : OpenClaim := { program := "ytjdmagackoddaab", sum := "4718d4f94b397c22860e26518f12361ce0fcfcb6d69000b1cce595c3b45dd6ad", func := "loop.example/g03319/laws.FnExactTagOk", spec := "fnExactTagOk", apart := false, narrowed := true }
def FnExactTagOkUptoSaid : Prop := fnExactTagOkUptoRow.holds Try.pinned (OpenSpec.upto fnExactTagOkSpec)

/-- 'laws.FnExactTagNumber', WHERE WHAT IT READS IS OF BULK AT MOST 1048576: true; the input reads as it did. -/
def fnExactTagNumberUptoRow : OpenClaim := { program := "ytjdmagackoddaab", sum := "4718d4f94b397c22860e26518f12361ce0fcfcb6d69000b1cce595c3b45dd6ad", func := "loop.example/g03319/laws.FnExactTagNumber", spec := "fnExactTagNumber", apart := false, narrowed := true }
def FnExactTagNumberUptoSaid : Prop := fnExactTagNumberUptoRow.holds Try.pinned (OpenSpec.upto fnExactTagNumberSpec)

/-- 'laws.FnExactTagCheck', WHERE WHAT IT READS IS OF BULK AT MOST 1048576: true; the input reads as it did. -/
def fnExactTagCheckUptoRow : OpenClaim := { program := "ytjdmagackoddaab", sum := "4718d4f94b397c22860e26518f12361ce0fcfcb6d69000b1cce595c3b45dd6ad", func := "loop.example/g03319/laws.FnExactTagCheck", spec := "fnExactTagCheck", apart := false, narrowed := true }
def FnExactTagCheckUptoSaid : Prop := fnExactTagCheckUptoRow.holds Try.pinned (OpenSpec.upto fnExactTagCheckSpec)

end Rows
end Go.Proofs.Ytjdmagackoddaab
