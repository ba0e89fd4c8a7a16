/-
  DERIVED. GIVEN WITH THE SEED: THE CARDS: each row of YtjdmagackoddaaaDoorRows.lean that lists a variable, with what it lists TIED to the program's text (the seventh form; the later family's looks); each row that meets fmt, with fmt's text TOLD by the authors' own Lean function (tested against real Go, not proved from fmt's source: count such statements apart). THE CARD IS WHAT COUNTS. Prove the row's statement (the work); the ties are given (YtjdmagackoddaaaDoorTie.lean); close each card by the builder's one call (the guide's Derived/Test/ToyasCard.lean, 'card_holds'). Laid BY PROGRAM, IN A SANDBOX (cutbox-door.mjs). By AI agents, Wed Nov 11 2026. No macro, syntax, notation, axiom, sorry.
-/
import Derived.Test.YtjdmagackoddaaaDoorRows
import GoSem.ClaimSeven
namespace Go.Proofs.YtjdmagackoddaaaDoor
namespace Rows

/-- THE TIED CARD OF 'laws.FnCandidates'. -/
def fnCandidatesCard : Claim7 := { stood := { row := fnCandidatesRow, standIns := [], harness := (true, "9a0d1a69dd0fbd9189425c16cc78e49440c5a1dfba85b9b275998d55ff14b976"), looks := true }, kinds := [], alts := [], laidByText := true, laidKinds := [.data, .data, .data, .sentinel, .sentinel], laidTests := true, laidLooks := .later }
def FnCandidatesCardSaid : Prop := Claim7.holds Tryd.pinned (.plain (OpenSpec.ofChange fnCandidatesSpec)) fnCandidatesCard

/-- THE TIED CARD OF 'laws.FnNearTags'. -/
def fnNearTagsCard : Claim7 := { stood := { row := fnNearTagsRow, standIns := [], harness := (true, "9a0d1a69dd0fbd9189425c16cc78e49440c5a1dfba85b9b275998d55ff14b976"), looks := true }, kinds := [], alts := [], laidByText := true, laidKinds := [.data, .data, .data, .sentinel, .sentinel], laidTests := true, laidLooks := .later }
def FnNearTagsCardSaid : Prop := Claim7.holds Tryd.pinned (.plain (OpenSpec.ofChange fnNearTagsSpec)) fnNearTagsCard

/-- THE TIED CARD OF 'laws.FnExactFormatInt'. -/
def fnExactFormatIntCard : Claim7 := { stood := { row := fnExactFormatIntRow, standIns := [], harness := (true, "9a0d1a69dd0fbd9189425c16cc78e49440c5a1dfba85b9b275998d55ff14b976"), looks := true }, kinds := [], alts := [], laidByText := true, laidKinds := [.data, .data, .data], laidTests := true, laidLooks := .later }
def FnExactFormatIntCardSaid : Prop := Claim7.holds Tryd.pinned (.plain (OpenSpec.ofChange fnExactFormatIntSpec)) fnExactFormatIntCard

/-- THE TIED CARD OF 'laws.FnExactParseUint'. -/
def fnExactParseUintCard : Claim7 := { stood := { row := fnExactParseUintRow, standIns := [], harness := (true, "9a0d1a69dd0fbd9189425c16cc78e49440c5a1dfba85b9b275998d55ff14b976"), looks := true }, kinds := [], alts := [], laidByText := true, laidKinds := [.data, .data, .data, .sentinel, .sentinel], laidTests := true, laidLooks := .later }
def FnExactParseUintCardSaid : Prop := Claim7.holds Tryd.pinned (.plain (OpenSpec.ofChange fnExactParseUintSpec)) fnExactParseUintCard

/-- THE SECOND FORM's CARD OF 'laws.FnCandidates'. -/
def fnCandidatesUptoCard : Claim7 := { stood := { row := fnCandidatesUptoRow, standIns := [], harness := (true, "9a0d1a69dd0fbd9189425c16cc78e49440c5a1dfba85b9b275998d55ff14b976"), looks := true }, kinds := [], alts := [], laidByText := true, laidKinds := [.data, .data, .data, .sentinel, .sentinel], laidTests := true, laidLooks := .later }
def FnCandidatesUptoCardSaid : Prop := Claim7.holds Tryd.pinned (.plain (OpenSpec.upto fnCandidatesSpec)) fnCandidatesUptoCard

/-- THE SECOND FORM's CARD OF 'laws.FnNearTags'. -/
def fnNearTagsUptoCard : Claim7 := { stood := { row := fnNearTagsUptoRow, standIns := [], harness := (true, "9a0d1a69dd0fbd9189425c16cc78e49440c5a1dfba85b9b275998d55ff14b976"), looks := true }, kinds := [], alts := [], laidByText := true, laidKinds := [.data, .data, .data, .sentinel, .sentinel], laidTests := true, laidLooks := .later }
def FnNearTagsUptoCardSaid : Prop := Claim7.holds Tryd.pinned (.plain (OpenSpec.upto fnNearTagsSpec)) fnNearTagsUptoCard

/-- THE SECOND FORM's CARD OF 'laws.FnExactFormatInt'. -/
def fnExactFormatIntUptoCard : Claim7 := { stood := { row := fnExactFormatIntUptoRow, standIns := [], harness := (true, "9a0d1a69dd0fbd9189425c16cc78e49440c5a1dfba85b9b275998d55ff14b976"), looks := true }, kinds := [], alts := [], laidByText := true, laidKinds := [.data, .data, .data], laidTests := true, laidLooks := .later }
def FnExactFormatIntUptoCardSaid : Prop := Claim7.holds Tryd.pinned (.plain (OpenSpec.upto fnExactFormatIntSpec)) fnExactFormatIntUptoCard

/-- THE SECOND FORM's CARD OF 'laws.FnExactParseUint'. -/
def fnExactParseUintUptoCard : Claim7 := { stood := { row := fnExactParseUintUptoRow, standIns := [], harness := (true, "9a0d1a69dd0fbd9189425c16cc78e49440c5a1dfba85b9b275998d55ff14b976"), looks := true }, kinds := [], alts := [], laidByText := true, laidKinds := [.data, .data, .data, .sentinel, .sentinel], laidTests := true, laidLooks := .later }
def FnExactParseUintUptoCardSaid : Prop := Claim7.holds Tryd.pinned (.plain (OpenSpec.upto fnExactParseUintSpec)) fnExactParseUintUptoCard
end Rows
end Go.Proofs.YtjdmagackoddaaaDoor
