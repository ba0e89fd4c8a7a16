/-
  DERIVED. GIVEN WITH THE SEED: THE CARDS: each row of YtjdmagackoddaacDoorRows.lean that lists a variable, with what it lists TIED to the program's text (the seventh form; the later family's looks); each row that meets fmt, with fmt's text TOLD by the authors' own Lean function (tested against real Go, not proved from fmt's source: count such statements apart). THE CARD IS WHAT COUNTS. Prove the row's statement (the work); the ties are given (YtjdmagackoddaacDoorTie.lean); close each card by the builder's one call (the guide's Derived/Test/ToyasCard.lean, 'card_holds'). Laid BY PROGRAM, IN A SANDBOX (cutbox-door.mjs). By AI agents, Wed Nov 11 2026. No macro, syntax, notation, axiom, sorry.
-/
import Derived.Test.YtjdmagackoddaacDoorRows
import GoSem.ClaimSeven
namespace Go.Proofs.YtjdmagackoddaacDoor
namespace Rows

/-- THE TIED CARD OF 'laws.FnExactParseTag'. -/
def fnExactParseTagCard : Claim7 := { stood := { row := fnExactParseTagRow, standIns := [], harness := (true, "7c7e3b9801f49a7a1b499c67f89ba68894245240762cb19e490ba1d22b5537e3"), looks := true }, kinds := [], alts := [], laidByText := true, laidKinds := [.data, .data, .data, .sentinel, .sentinel], laidTests := true, laidLooks := .later }
def FnExactParseTagCardSaid : Prop := Claim7.holds Tryd.pinned (.plain (OpenSpec.ofChange fnExactParseTagSpec)) fnExactParseTagCard

/-- THE TIED CARD OF 'laws.FnExactCandidates'. -/
def fnExactCandidatesCard : Claim7 := { stood := { row := fnExactCandidatesRow, standIns := [], harness := (true, "7c7e3b9801f49a7a1b499c67f89ba68894245240762cb19e490ba1d22b5537e3"), looks := true }, kinds := [], alts := [], laidByText := true, laidKinds := [.data, .data, .data, .sentinel, .sentinel], laidTests := true, laidLooks := .later }
def FnExactCandidatesCardSaid : Prop := Claim7.holds Tryd.pinned (.plain (OpenSpec.ofChange fnExactCandidatesSpec)) fnExactCandidatesCard

/-- THE TIED CARD OF 'laws.FnExactRepairTag'. -/
def fnExactRepairTagCard : Claim7 := { stood := { row := fnExactRepairTagRow, standIns := [], harness := (true, "7c7e3b9801f49a7a1b499c67f89ba68894245240762cb19e490ba1d22b5537e3"), looks := true }, kinds := [], alts := [], laidByText := true, laidKinds := [.data, .data, .data, .sentinel, .sentinel], laidTests := true, laidLooks := .later }
def FnExactRepairTagCardSaid : Prop := Claim7.holds Tryd.pinned (.plain (OpenSpec.ofChange fnExactRepairTagSpec)) fnExactRepairTagCard

/-- THE TIED CARD OF 'laws.FnExactNearTags'. -/
def fnExactNearTagsCard : Claim7 := { stood := { row := fnExactNearTagsRow, standIns := [], harness := (true, "7c7e3b9801f49a7a1b499c67f89ba68894245240762cb19e490ba1d22b5537e3"), looks := true }, kinds := [], alts := [], laidByText := true, laidKinds := [.data, .data, .data, .sentinel, .sentinel], laidTests := true, laidLooks := .later }
def FnExactNearTagsCardSaid : Prop := Claim7.holds Tryd.pinned (.plain (OpenSpec.ofChange fnExactNearTagsSpec)) fnExactNearTagsCard

/-- THE SECOND FORM's CARD OF 'laws.FnExactParseTag'. -/
def fnExactParseTagUptoCard : Claim7 := { stood := { row := fnExactParseTagUptoRow, standIns := [], harness := (true, "7c7e3b9801f49a7a1b499c67f89ba68894245240762cb19e490ba1d22b5537e3"), looks := true }, kinds := [], alts := [], laidByText := true, laidKinds := [.data, .data, .data, .sentinel, .sentinel], laidTests := true, laidLooks := .later }
def FnExactParseTagUptoCardSaid : Prop := Claim7.holds Tryd.pinned (.plain (OpenSpec.upto fnExactParseTagSpec)) fnExactParseTagUptoCard

/-- THE SECOND FORM's CARD OF 'laws.FnExactCandidates'. -/
def fnExactCandidatesUptoCard : Claim7 := { stood := { row := fnExactCandidatesUptoRow, standIns := [], harness := (true, "7c7e3b9801f49a7a1b499c67f89ba68894245240762cb19e490ba1d22b5537e3"), looks := true }, kinds := [], alts := [], laidByText := true, laidKinds := [.data, .data, .data, .sentinel, .sentinel], laidTests := true, laidLooks := .later }
def FnExactCandidatesUptoCardSaid : Prop := Claim7.holds Tryd.pinned (.plain (OpenSpec.upto fnExactCandidatesSpec)) fnExactCandidatesUptoCard

/-- THE SECOND FORM's CARD OF 'laws.FnExactRepairTag'. -/
def fnExactRepairTagUptoCard : Claim7 := { stood := { row := fnExactRepairTagUptoRow, standIns := [], harness := (true, "7c7e3b9801f49a7a1b499c67f89ba68894245240762cb19e490ba1d22b5537e3"), looks := true }, kinds := [], alts := [], laidByText := true, laidKinds := [.data, .data, .data, .sentinel, .sentinel], laidTests := true, laidLooks := .later }
def FnExactRepairTagUptoCardSaid : Prop := Claim7.holds Tryd.pinned (.plain (OpenSpec.upto fnExactRepairTagSpec)) fnExactRepairTagUptoCard

/-- THE SECOND FORM's CARD OF 'laws.FnExactNearTags'. -/
def fnExactNearTagsUptoCard : Claim7 := { stood := { row := fnExactNearTagsUptoRow, standIns := [], harness := (true, "7c7e3b9801f49a7a1b499c67f89ba68894245240762cb19e490ba1d22b5537e3"), looks := true }, kinds := [], alts := [], laidByText := true, laidKinds := [.data, .data, .data, .sentinel, .sentinel], laidTests := true, laidLooks := .later }
def FnExactNearTagsUptoCardSaid : Prop := Claim7.holds Tryd.pinned (.plain (OpenSpec.upto fnExactNearTagsSpec)) fnExactNearTagsUptoCard
end Rows
end Go.Proofs.YtjdmagackoddaacDoor
