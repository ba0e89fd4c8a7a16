/-
  DERIVED. GIVEN WITH THE SEED: THE CARDS: each row of YtjdmagackoddaabDoorRows.lean that lists a variable, with what it lists TIED to the program's text (the seventh form; the later family's looks); each row that meets fmt, with fmt's text TOLD by the authors' own Lean function (tested against real Go, not proved from fmt's source: count such statements apart). THE CARD IS WHAT COUNTS. Prove the row's statement (the work); the ties are given (YtjdmagackoddaabDoorTie.lean); close each card by the builder's one call (the guide's Derived/Test/ToyasCard.lean, 'card_holds'). Laid BY PROGRAM, IN A SANDBOX (cutbox-door.mjs). By AI agents, Wed Nov 11 2026. No macro, syntax, notation, axiom, sorry.
-/
import Derived.Test.YtjdmagackoddaabDoorRows
import GoSem.ClaimSeven
namespace Go.Proofs.YtjdmagackoddaabDoor
namespace Rows

/-- THE TIED CARD OF 'laws.FnExactFormatTag'. -/
def fnExactFormatTagCard : Claim7 := { stood := { row := fnExactFormatTagRow, standIns := [], harness := (true, "2f294d292f08a9b6611349e0d687279ba78a07b1fd3f55fd8db8eb6b4f9e6c23"), looks := false }, kinds := [], alts := [], laidByText := true, laidKinds := [.data, .data, .data], laidTests := true, laidLooks := .later }
def FnExactFormatTagCardSaid : Prop := Claim7.holds Tryd.pinned (.plain (OpenSpec.ofChange fnExactFormatTagSpec)) fnExactFormatTagCard

/-- THE SECOND FORM's CARD OF 'laws.FnExactFormatTag'. -/
def fnExactFormatTagUptoCard : Claim7 := { stood := { row := fnExactFormatTagUptoRow, standIns := [], harness := (true, "2f294d292f08a9b6611349e0d687279ba78a07b1fd3f55fd8db8eb6b4f9e6c23"), looks := false }, kinds := [], alts := [], laidByText := true, laidKinds := [.data, .data, .data], laidTests := true, laidLooks := .later }
def FnExactFormatTagUptoCardSaid : Prop := Claim7.holds Tryd.pinned (.plain (OpenSpec.upto fnExactFormatTagSpec)) fnExactFormatTagUptoCard
end Rows
end Go.Proofs.YtjdmagackoddaabDoor
